/- ShowImplD BtVar CnShow StrAid StrEq WbSame -/
import Derived.Test.YtfmannphobjgpaaRows
import Derived.Test.YtfmannphobjgpaaQc2
import Derived.Test.YtfmannphobjgpaaQc0
import Derived.Deep.RegionHeld3
import Derived.Handy
import Derived.Test.YtfmannphobjgpaaQc3
import Derived.Test.YtfmannphobjgpaaQc9
import Derived.WalkKit
import Derived.ProofKit
import Derived.Laws.OwnMore
import Derived.Below
import Derived.OwnWalk
import Derived.WalkSmall
import Derived.OpenShut
import Derived.WalkLawsBesides
import Derived.Outline
import Derived.BigQuiet
import Derived.Deep.QuietTactic
import Derived.Deep.RegionWith
import Derived.Laws.StructEq
import Derived.Laws.DeepStrings4
open List (setIfInBounds_toArray set_cons_zero set_cons_succ)
namespace Go.Proofs.Ytfmannphobjgpaa
open Go.ChangeShapes Go.WideShapes Go.ChangeAt Go.RowKit Go.PlainAid
set_option linter.unusedVariables false
def showB (r : Rcd) : ByteArray := txt [byt r.kind.toNat] ++ txt (vF 6 r.term.toNat) ++ txt (vF 6 r.index.toNat) ++ txt (vF 6 (r.vote + 1).toNat) ++ r.data
def showR (r : Rcd) : ByteArray := if recOk r = true then showB r else ⟨#[]⟩
theorem recOk_in (k t i v : Int) (d : ByteArray) (h : recOk ⟨k, t, i, v, d⟩ = true) : (1 ≤ k ∧ k ≤ 4) ∧ (0 ≤ t ∧ t ≤ 100000) ∧ (0 ≤ i ∧ i ≤ 100000) ∧ (-1 ≤ v ∧ v ≤ 4) ∧ d.size ≤ 900 := by
 have he : d = ByteArray.empty → d.size = 0 := fun h => by subst h; rfl
 rw [recOk_iff, Bool.and_eq_true] at h
 obtain ⟨h1, h2⟩ := h
 have h1 := of_decide_eq_true h1
 unfold rest0 at h2
 rcases (show k = 1 ∨ k = 2 ∨ k = 3 ∨ k = 4 by omega) with rfl | rfl | rfl | rfl
 ·simp at h2
  have := he h2.2
  omega
 ·simp at h2
  omega
 ·simp at h2
  have := he h2.2
  omega
 ·simp at h2
  have := he h2.2
  omega
theorem fixed_one (n : Nat) (h : n < 256) : fixed n 1 = txt [byt n] := by
 unfold fixed
 rw [if_pos (by rw [Nat.pow_one]; exact Nat.div_eq_of_lt h)]
 simp [low]
theorem vsize (n : Nat) : (txt (vF 6 n)).size ≤ 7 := by rw [txt_size]; exact vF_length 6 n
theorem conv_one (kn g cap : Nat) (w : World) (h : w.cell? ⟨g, 0, none⟩ = some (.int .u8 (kn : Int))) (hk : kn < 256) : (convert 22 9 (.slice (some ⟨g, 0, none⟩) 1 cap)).run Try.prog w = .ok (.string (txt [byt kn])) w := by
 refine run_convert_bytes_back (P := Try.prog) w 22 9 5 ⟨g, 0, none⟩ cap [byt kn] Try.underlying22 Try.underlying5 Try.underlying9 ?_
 intro j hj
 obtain rfl : j = 0 := by simp at hj; omega
 show w.cell? ⟨g, 0, none⟩ = _
 rw [h]
 have : (byt kn).toNat = kn := by rw [byt_toNat]; omega
 simp [this]
theorem byt_one (n : Nat) (h : n < 256) : IntKind.u8.wrap (n : Int) = (n : Int) := by rw [IntKind.wrap_u8']; omega
set_option maxHeartbeats 2000000 in
theorem implShowRec (r : Rcd) (w : World) (hd : r.data.size ≤ 1048576) : Calls Try.prog 10 #[vRcd r] w fun e w' => e = .returned (.string (showR r)) ∧ Below w.heap.size w w' := by
 have c1 := fun wx => implRecOk r wx (by unfold maxLen; omega)
 obtain ⟨k, t, i, v, d⟩ := r
 unfold vRcd at *
 simp only at hd c1 ⊢
 have hb0 : Below w.heap.size w (w.alloc (.cells #[.int .i64 k, .int .i64 t, .int .i64 i, .int .i64 v, .string d] 35)) := (Below.refl _ _).alloc (Nat.le_refl _) _
 have k0 := Blk.new w #[.int .i64 k, .int .i64 t, .int .i64 i, .int .i64 v, .string d] 35
 have HE : Hid (showR ⟨k, t, i, v, d⟩ = if recOk ⟨k, t, i, v, d⟩ = true then showB ⟨k, t, i, v, d⟩ else ⟨#[]⟩) := rfl
 cases ho : recOk ⟨k, t, i, v, d⟩ <;> rw [ho] at c1 HE
 ·clear ho
  go_enter Try.func10, Try.ntmps10
  go_wp2_with fail
  generalize w.alloc (.cells #[.int .i64 k, .int .i64 t, .int .i64 i, .int .i64 v, .string d] 35) = W at *
  refine (c1 _).mono ?_
  rintro e w1 ⟨rfl, hb1⟩
  have B1 : Hid (Below w.heap.size w w1) := hb0.trans (hb1.mono hb0.size)
  clear hb0 hb1 c1 k0
  go_wp2_with fail
  go_ret
  exact ⟨by rw [HE.out]; rfl, B1.out⟩
 ·obtain ⟨⟨k1, k2⟩, ⟨t1, t2⟩, ⟨i1, i2⟩, ⟨v1, v2⟩, d1⟩ := recOk_in k t i v d ho
  clear ho
  have HE : Hid (showR ⟨k, t, i, v, d⟩ = txt [byt k.toNat] ++ txt (vF 6 t.toNat) ++ txt (vF 6 i.toNat) ++ txt (vF 6 (v + 1).toNat) ++ d) := by unfold Hid; rw [HE.out]; rfl
  obtain ⟨kn, rfl⟩ : ∃ n : Nat, k = (n : Int) := ⟨k.toNat, by omega⟩
  obtain ⟨tn, rfl⟩ : ∃ n : Nat, t = (n : Int) := ⟨t.toNat, by omega⟩
  obtain ⟨jn, rfl⟩ : ∃ n : Nat, i = (n : Int) := ⟨i.toNat, by omega⟩
  obtain ⟨vn, hvn⟩ : ∃ n : Nat, v + 1 = (n : Int) := ⟨(v + 1).toNat, by omega⟩
  rw [hvn, Int.toNat_natCast, Int.toNat_natCast, Int.toNat_natCast, Int.toNat_natCast] at HE
  have hw1 : IntKind.i64.wrap (v + 1) = (vn : Int) := by rw [IntKind.wrap_i64]; omega
  have hw2 : wrap64 (v + 1) = (vn : Int) := by unfold wrap64; omega
  have hfx := fixed_one kn (by omega)
  have HK : Hid (kn < 256) := by unfold Hid; omega
  have n1 : kn ≤ 4 := by omega
  have n2 : tn ≤ 100000 := by omega
  have n3 : jn ≤ 100000 := by omega
  have n4 : vn ≤ 5 := by omega
  have s0 : (txt [byt kn]).size = 1 := by rw [txt_size]; rfl
  have s1 := vsize tn
  have s2 := vsize jn
  have s3 := vsize vn
  have hu8 := byt_one kn (by omega)
  have hcell := one_cell (kn : Int) kn rfl (by omega)
  clear k1 k2 t1 t2 i1 i2 v1 v2
  go_enter Try.func10, Try.ntmps10
  go_wp2_with fail
  generalize w.alloc (.cells #[.int .i64 (kn : Int), .int .i64 (tn : Int), .int .i64 (jn : Int), .int .i64 v, .string d] 35) = W at *
  refine (c1 _).mono ?_
  rintro e w1 ⟨rfl, hb1⟩
  have B1 : Hid (Below w.heap.size w w1) := hb0.trans (hb1.mono hb0.size)
  have k1 := k0.on hb1 k0.lt
  have HW : Hid (w.heap.size < w1.drew.heap.size) := k1.lt
  have Z1 : Hid (w.heap.size ≤ w1.heap.size) := B1.out.size
  clear hb0 hb1 c1 k0
  have e0 : w1.drew.cell? ⟨w.heap.size, 0, none⟩ = some (.int .i64 (kn : Int)) := k1.cell 0 _ rfl
  have e1 : w1.drew.cell? ⟨w.heap.size, 1, none⟩ = some (.int .i64 (tn : Int)) := k1.cell 1 _ rfl
  have e2 : w1.drew.cell? ⟨w.heap.size, 2, none⟩ = some (.int .i64 (jn : Int)) := k1.cell 2 _ rfl
  have e3 : w1.drew.cell? ⟨w.heap.size, 3, none⟩ = some (.int .i64 v) := k1.cell 3 _ rfl
  have e4 : w1.drew.cell? ⟨w.heap.size, 4, none⟩ = some (.string d) := k1.cell 4 _ rfl
  have S0 : Hid (w1.drew.cell? ⟨w.heap.size, 0, none⟩ = some (.int .i64 (kn : Int)) ∧ w1.drew.cell? ⟨w.heap.size, 1, none⟩ = some (.int .i64 (tn : Int)) ∧ w1.drew.cell? ⟨w.heap.size, 2, none⟩ = some (.int .i64 (jn : Int)) ∧ w1.drew.cell? ⟨w.heap.size, 3, none⟩ = some (.int .i64 v) ∧ w1.drew.cell? ⟨w.heap.size, 4, none⟩ = some (.string d)) := ⟨e0, e1, e2, e3, e4⟩
  have KK : Hid (Blk w1 w.heap.size _ _) := k1
  clear k1
  have cF : ∀ wx, Calls Try.prog 28 #[.int .i64 (kn : Int), .int .i64 1] wx fun e w' => e = .returned (.string (txt [byt kn])) ∧ Below wx.heap.size wx w' := fun wx => by
   have h := impl_fixed kn 1 wx (by omega) (by omega) (by omega)
   rw [hfx] at h
   exact h
  have cC : ∀ g wx, wx.cell? ⟨g, 0, none⟩ = some (.int .u8 (kn : Int)) → (convert 22 9 (.slice (some ⟨g, 0, none⟩) 1 1)).run Try.prog wx = .ok (.string (txt [byt kn])) wx := fun g wx h => conv_one kn g 1 wx h HK.out
  have cT := fun wx => impl_var tn wx (by omega)
  have cJ := fun wx => impl_var jn wx (by omega)
  have cV : ∀ x wx, x = (vn : Int) → Calls Try.prog 29 #[.int .i64 x] wx fun e w' => e = .returned (.string (txt (vF 6 vn))) ∧ Below wx.heap.size wx w' := fun x wx hx => by rw [hx]; exact impl_var vn wx (by omega)
  generalize txt [byt kn] = a0 at *
  generalize txt (vF 6 tn) = a1 at *
  generalize txt (vF 6 jn) = a2 at *
  generalize txt (vF 6 vn) = a3 at *
  have g1 : ¬ 9223372036854775807 < a0.size + a1.size := by omega
  have g2 : ¬ 9223372036854775807 < (a0 ++ a1).size + a2.size := by rw [ByteArray.size_append]; omega
  have g2' : ¬ 9223372036854775807 < a0.size + a1.size + a2.size := by omega
  have g3 : ¬ 9223372036854775807 < (a0 ++ a1 ++ a2).size + a3.size := by rw [ByteArray.size_append, ByteArray.size_append]; omega
  have g3' : ¬ 9223372036854775807 < a0.size + a1.size + a2.size + a3.size := by omega
  have g4 : ¬ 9223372036854775807 < (a0 ++ a1 ++ a2 ++ a3).size + d.size := by rw [ByteArray.size_append, ByteArray.size_append, ByteArray.size_append]; omega
  have g4' : ¬ 9223372036854775807 < a0.size + a1.size + a2.size + a3.size + d.size := by omega
  clear hfx s0 s1 s2 s3 hcell
  clear e0 e1 e2 e3 e4
  have K0 : Hid (Blk w1.drew w.heap.size #[.int .i64 (kn : Int), .int .i64 (tn : Int), .int .i64 (jn : Int), .int .i64 v, .string d] 35) := KK.out
  have D0 : Hid (Below w.heap.size w w1.drew) := B1.out.drew
  go_wp2_with fail
  refine wp_region_until (fun w' => w'.cell? ⟨w.heap.size, 0, none⟩ = some (.int .i64 (kn : Int)) ∧ w'.cell? ⟨w.heap.size, 1, none⟩ = some (.int .i64 (tn : Int)) ∧ w'.cell? ⟨w.heap.size, 2, none⟩ = some (.int .i64 (jn : Int)) ∧ w'.cell? ⟨w.heap.size, 3, none⟩ = some (.int .i64 v) ∧ w'.cell? ⟨w.heap.size, 4, none⟩ = some (.string d)) (fun i => false) 20 (by rfl) (by kernel_rfl) ?_
  generalize w1.drew = X at *
  refine until_take 0 (v := ?vq1) (by rfl) (by kernel_rfl) (by exact fun _ _ _ h => h) (by rfl) ?hyq1 S0.out ?rq1
  case hyq1 =>
   intro w hSw
   try dsimp only at hSw
   go_simp
   try with_reducible rfl
  try simp only [Act.put, setIfInBounds_toArray, set_cons_zero, set_cons_succ]
  refine until_take 1 (v := ?vq2) (by rfl) (by kernel_rfl) (by exact fun _ _ _ h => h) (by rfl) ?hyq2 S0.out ?rq2
  case hyq2 =>
   intro w hSw
   try dsimp only at hSw
   go_simp
   try with_reducible rfl
  try simp only [Act.put, setIfInBounds_toArray, set_cons_zero, set_cons_succ]
  refine until_take 3 (v := ?vq3) (by rfl) (by kernel_rfl) (by exact fun _ _ _ h => h) (by rfl) ?hyq3 S0.out ?rq3
  case hyq3 =>
   intro w hSw
   try dsimp only at hSw
   go_simp
   try with_reducible rfl
  try simp only [Act.put, setIfInBounds_toArray, set_cons_zero, set_cons_succ]
  refine until_take 4 (v := ?vq4) (by rfl) (by kernel_rfl) (by exact fun _ _ _ h => h) (by rfl) ?hyq4 S0.out ?rq4
  case hyq4 =>
   intro w hSw
   try dsimp only at hSw
   go_simp
   try with_reducible rfl
  try simp only [Act.put, setIfInBounds_toArray, set_cons_zero, set_cons_succ]
  refine until_take 7 (v := ?vq5) (by rfl) (by kernel_rfl) (by exact fun _ _ _ h => h) (by rfl) ?hyq5 S0.out ?rq5
  case hyq5 =>
   intro w hSw
   try dsimp only at hSw
   go_simp
   try with_reducible rfl
  try simp only [Act.put, setIfInBounds_toArray, set_cons_zero, set_cons_succ]
  refine until_take 8 (v := ?vq6) (by rfl) (by kernel_rfl) (by exact fun _ _ _ h => h) (by rfl) ?hyq6 S0.out ?rq6
  case hyq6 =>
   intro w hSw
   try dsimp only at hSw
   go_simp
   try with_reducible rfl
  try simp only [Act.put, setIfInBounds_toArray, set_cons_zero, set_cons_succ]
  refine until_take 11 (v := ?vq7) (by rfl) (by kernel_rfl) (by exact fun _ _ _ h => h) (by rfl) ?hyq7 S0.out ?rq7
  case hyq7 =>
   intro w hSw
   try dsimp only at hSw
   go_simp
   try with_reducible rfl
  try simp only [Act.put, setIfInBounds_toArray, set_cons_zero, set_cons_succ]
  refine until_take 12 (v := ?vq8) (by rfl) (by kernel_rfl) (by exact fun _ _ _ h => h) (by rfl) ?hyq8 S0.out ?rq8
  case hyq8 =>
   intro w hSw
   try dsimp only at hSw
   go_simp
   try with_reducible rfl
  try simp only [Act.put, setIfInBounds_toArray, set_cons_zero, set_cons_succ]
  refine until_pure 13 (v := ?vq9) (by rfl) (by kernel_rfl) (by exact fun _ _ _ h => h) (by rfl) ?hyq9 ?rq9
  case hyq9 =>
   intro w
   go_simp
   try with_reducible rfl
  try simp only [Act.put, setIfInBounds_toArray, set_cons_zero, set_cons_succ]
  refine until_take 16 (v := ?vq10) (by rfl) (by kernel_rfl) (by exact fun _ _ _ h => h) (by rfl) ?hyq10 S0.out ?rq10
  case hyq10 =>
   intro w hSw
   try dsimp only at hSw
   go_simp
   try with_reducible rfl
  try simp only [Act.put, setIfInBounds_toArray, set_cons_zero, set_cons_succ]
  refine until_take 17 (v := ?vq11) (by rfl) (by kernel_rfl) (by exact fun _ _ _ h => h) (by rfl) ?hyq11 S0.out ?rq11
  case hyq11 =>
   intro w hSw
   try dsimp only at hSw
   go_simp
   try with_reducible rfl
  try simp only [Act.put, setIfInBounds_toArray, set_cons_zero, set_cons_succ]
  refine until_one 2 (by rfl) (by kernel_rfl) (fun K hK => ?_)
  go_simp
  refine (cF _).mono ?_
  rintro e X1 ⟨rfl, hb1⟩
  have K1 : Hid (Blk X1 w.heap.size #[.int .i64 (kn : Int), .int .i64 (tn : Int), .int .i64 (jn : Int), .int .i64 v, .string d] 35) := K0.out.on hb1 K0.out.lt
  have D1 : Hid (Below w.heap.size w X1) := D0.out.trans (hb1.mono D0.out.size)
  clear hb1
  go_wp2_with fail
  refine hK.out _ _ (fun _ _ => ⟨K1.out.cell 0 _ rfl, K1.out.cell 1 _ rfl, K1.out.cell 2 _ rfl, K1.out.cell 3 _ rfl, K1.out.cell 4 _ rfl⟩) ?_
  clear hK K
  try simp only [Act.put, setIfInBounds_toArray, set_cons_zero, set_cons_succ]
  refine until_one 5 (by rfl) (by kernel_rfl) (fun K hK => ?_)
  go_simp
  refine (cT _).mono ?_
  rintro e X2 ⟨rfl, hb2⟩
  have K2 : Hid (Blk X2 w.heap.size #[.int .i64 (kn : Int), .int .i64 (tn : Int), .int .i64 (jn : Int), .int .i64 v, .string d] 35) := K1.out.on hb2 K1.out.lt
  have D2 : Hid (Below w.heap.size w X2) := D1.out.trans (hb2.mono D1.out.size)
  clear hb2
  go_wp2_with fail
  refine hK.out _ _ (fun _ _ => ⟨K2.out.cell 0 _ rfl, K2.out.cell 1 _ rfl, K2.out.cell 2 _ rfl, K2.out.cell 3 _ rfl, K2.out.cell 4 _ rfl⟩) ?_
  clear hK K
  try simp only [Act.put, setIfInBounds_toArray, set_cons_zero, set_cons_succ]
  refine until_pure 6 (v := ?vq12) (by rfl) (by kernel_rfl) (by exact fun _ _ _ h => h) (by rfl) ?hyq12 ?rq12
  case hyq12 =>
   intro w
   go_simp
   try with_reducible rfl
  try simp only [Act.put, setIfInBounds_toArray, set_cons_zero, set_cons_succ]
  refine until_one 9 (by rfl) (by kernel_rfl) (fun K hK => ?_)
  go_simp
  refine (cJ _).mono ?_
  rintro e X3 ⟨rfl, hb3⟩
  have K3 : Hid (Blk X3 w.heap.size #[.int .i64 (kn : Int), .int .i64 (tn : Int), .int .i64 (jn : Int), .int .i64 v, .string d] 35) := K2.out.on hb3 K2.out.lt
  have D3 : Hid (Below w.heap.size w X3) := D2.out.trans (hb3.mono D2.out.size)
  clear hb3
  go_wp2_with fail
  refine hK.out _ _ (fun _ _ => ⟨K3.out.cell 0 _ rfl, K3.out.cell 1 _ rfl, K3.out.cell 2 _ rfl, K3.out.cell 3 _ rfl, K3.out.cell 4 _ rfl⟩) ?_
  clear hK K
  try simp only [Act.put, setIfInBounds_toArray, set_cons_zero, set_cons_succ]
  refine until_pure 10 (v := ?vq13) (by rfl) (by kernel_rfl) (by exact fun _ _ _ h => h) (by rfl) ?hyq13 ?rq13
  case hyq13 =>
   intro w
   go_simp
   try with_reducible rfl
  try simp only [Act.put, setIfInBounds_toArray, set_cons_zero, set_cons_succ]
  refine until_one 14 (by rfl) (by kernel_rfl) (fun K hK => ?_)
  go_simp
  refine (cV _ _ (by first | exact hw1 | exact hw2 | exact hvn | (rw [IntKind.wrap_i64]; omega) | omega)).mono ?_
  rintro e X4 ⟨rfl, hb4⟩
  have K4 : Hid (Blk X4 w.heap.size #[.int .i64 (kn : Int), .int .i64 (tn : Int), .int .i64 (jn : Int), .int .i64 v, .string d] 35) := K3.out.on hb4 K3.out.lt
  have D4 : Hid (Below w.heap.size w X4) := D3.out.trans (hb4.mono D3.out.size)
  clear hb4
  go_wp2_with fail
  refine hK.out _ _ (fun _ _ => ⟨K4.out.cell 0 _ rfl, K4.out.cell 1 _ rfl, K4.out.cell 2 _ rfl, K4.out.cell 3 _ rfl, K4.out.cell 4 _ rfl⟩) ?_
  clear hK K
  try simp only [Act.put, setIfInBounds_toArray, set_cons_zero, set_cons_succ]
  refine until_pure 15 (v := ?vq14) (by rfl) (by kernel_rfl) (by exact fun _ _ _ h => h) (by rfl) ?hyq14 ?rq14
  case hyq14 =>
   intro w
   go_simp
   try with_reducible rfl
  try simp only [Act.put, setIfInBounds_toArray, set_cons_zero, set_cons_succ]
  refine until_pure 18 (v := ?vq15) (by rfl) (by kernel_rfl) (by exact fun _ _ _ h => h) (by rfl) ?hyq15 ?rq15
  case hyq15 =>
   intro w
   go_simp
   try with_reducible rfl
  try simp only [Act.put, setIfInBounds_toArray, set_cons_zero, set_cons_succ]
  refine until_pure 19 (v := ?vq16) (by rfl) (by kernel_rfl) (by exact fun _ _ _ h => h) (by rfl) ?hyq16 ?rq16
  case hyq16 =>
   intro w
   go_simp
   try with_reducible rfl
  try simp only [Act.put, setIfInBounds_toArray, set_cons_zero, set_cons_succ]
  refine until_done (by kernel_rfl) ?_ _
  go_wp2_with fail
  go_ret
  exact ⟨by rw [HE.out]; rfl, D4.out⟩
end Go.Proofs.Ytfmannphobjgpaa
namespace Go.Proofs.Ytfmannphobjgpaa
open Go.RowKit Go.PlainAid
theorem bn_txt (l : List UInt8) (j : Nat) (h : j < l.length) : bn (txt l) j = (l[j]).toNat := by
 have hg := get_bn (txt l) j (by rw [txt_size]; exact h)
 have e : ((txt l)[j]'(by rw [txt_size]; exact h)) = l[j] := by simp [txt]; rfl
 rw [e] at hg
 omega
theorem bn_txt_append (l m : List UInt8) (j : Nat) (h : j < l.length) : bn (txt (l ++ m)) j = bn (txt l) j := by
 rw [bn_txt _ _ (by simp; omega), bn_txt _ _ h, List.getElem_append_left h]
theorem bn_cat (l m : List UInt8) (j : Nat) (h : j < l.length) : bn (txt (l ++ m)) j = (l[j]).toNat := by rw [bn_txt_append _ _ _ h, bn_txt _ _ h]
theorem vvS_var (f n : Nat) (pre tl : List UInt8) (hn : n < 128 ^ (f + 1)) : vvS (txt (pre ++ vF f n ++ tl)) pre.length (vF f n).length = n := by
 induction f generalizing n pre with
 | zero =>
  simp at hn
  have e : (vF 0 n).length = 1 := rfl
  rw [e]
  have hb : bn (txt (pre ++ vF 0 n ++ tl)) pre.length = n := by
   rw [bn_txt _ _ (by simp [vF])]
   simp [vF, byt_toNat]
   omega
  simp only [vvS, hb]
  omega
 | succ f ih =>
  by_cases h : n < 128
  ·rw [vF_small _ n h]
   have hb : bn (txt (pre ++ [byt n] ++ tl)) pre.length = n := by
    rw [bn_txt _ _ (by simp)]
    simp [byt_toNat]
    omega
   simp only [List.length_cons, List.length_nil, vvS, hb]
   omega
  ·have e : vF (f + 1) n = byt (128 + n % 128) :: vF f (n / 128) := by rw [vF, if_neg h]
   have hd : n / 128 < 128 ^ (f + 1) := by
    rw [Nat.pow_succ] at hn
    exact Nat.div_lt_of_lt_mul (by rw [Nat.mul_comm]; exact hn)
   rw [e]
   have hb : bn (txt (pre ++ (byt (128 + n % 128) :: vF f (n / 128)) ++ tl)) pre.length = 128 + n % 128 := by
    rw [bn_txt _ _ (by simp)]
    simp [byt_toNat]
    omega
   have hi := ih (n / 128) (pre ++ [byt (128 + n % 128)]) hd
   have e2 : pre ++ [byt (128 + n % 128)] ++ vF f (n / 128) ++ tl = pre ++ (byt (128 + n % 128) :: vF f (n / 128)) ++ tl := by simp
   rw [e2] at hi
   simp only [List.length_cons, vvS, hb]
   simp only [List.length_append, List.length_cons, List.length_nil] at hi
   rw [Nat.zero_add] at hi
   rw [hi]
   omega
theorem sg_txt (l tl : List UInt8) : sg (txt (l ++ tl)) 0 l.length = l := by
 have h := sg_extract (txt (l ++ tl)) l.length (by rw [txt_size]; simp)
 have e : (txt (l ++ tl)).extract 0 l.length = txt l := by
  apply ByteArray.ext
  apply Array.toList_inj.1
  rw [Lib.extract_data]
  simp [txt]
 rw [e] at h
 exact (txt_inj _ _ h).symm
theorem vF_pos (f n : Nat) : 1 ≤ (vF f n).length := by
 cases f with
 | zero => simp [vF]
 | succ f => rw [vF]; split <;> simp
theorem find_var (n : Nat) (tl : List UInt8) (hn : n ≤ 562949953421311) : FindV (txt (vF 6 n ++ tl)) (vF 6 n).length ∧ vvS (txt (vF 6 n ++ tl)) 0 (vF 6 n).length = n := by
 have hp := vF_pos 6 n
 have hl := vF_length 6 n
 have hv := vvS_var 6 n [] tl (by omega)
 simp only [List.nil_append, List.length_nil] at hv
 refine ⟨⟨hp, hl, by rw [txt_size]; simp, ?_⟩, hv⟩
 obtain ⟨d, hd⟩ : ∃ d, (vF 6 n).length = d + 1 := ⟨(vF 6 n).length - 1, by omega⟩
 have hs := sg_txt (vF 6 n) tl
 rw [hd] at hs hv ⊢
 rw [← canonS_iff _ d 0 6 (by omega), hv, hs]
end Go.Proofs.Ytfmannphobjgpaa
namespace Go.Proofs.Ytfmannphobjgpaa
open Go.ChangeShapes Go.WideShapes Go.ChangeAt Go.RowKit Go.PlainAid
set_option linter.unusedVariables false
theorem txt_behind (a b : List UInt8) (n : Nat) (hn : n = (txt (a ++ b)).size) : (txt (a ++ b)).extract a.length n = txt b := by
 subst hn
 rw [← txt_cat]
 apply ByteArray.ext
 apply Array.toList_inj.1
 rw [Lib.extract_data]
 simp [txt, ByteArray.size]
theorem show_txt (q : Rcd) (h : recOk q = true) : showR q = txt ([byt q.kind.toNat] ++ (vF 6 q.term.toNat ++ (vF 6 q.index.toNat ++ (vF 6 (q.vote + 1).toNat ++ q.data.data.toList)))) := by
 unfold showR showB
 rw [if_pos h]
 conv => lhs; rw [← txt_toList q.data]
 simp only [txt_cat, List.append_assoc]
theorem showR_size (r : Rcd) (h : r.data.size ≤ 900) : (showR r).size ≤ 1000 := by
 unfold showR
 split
 ·unfold showB
  have h1 := vsize r.term.toNat
  have h2 := vsize r.index.toNat
  have h3 := vsize (r.vote + 1).toNat
  simp only [ByteArray.size_append, txt_size] at *
  simp
  omega
 ·exact Nat.zero_le _
theorem parts_show (q : Rcd) (h : recOk q = true) : ∃ s1 s2 s3 s4 k1 k2 k3, Parts (showR q) s1 s2 s3 s4 k1 k2 k3 ∧ partsR (showR q) s1 s2 s3 s4 k1 k2 k3 = q := by
 obtain ⟨k, t, i, v, d⟩ := q
 obtain ⟨hk, ht, hi, hv, hd⟩ := recOk_in k t i v d h
 have e := show_txt ⟨k, t, i, v, d⟩ h
 simp only at e
 obtain ⟨f1, v1⟩ := find_var t.toNat (vF 6 i.toNat ++ (vF 6 (v + 1).toNat ++ d.data.toList)) (by omega)
 obtain ⟨f2, v2⟩ := find_var i.toNat (vF 6 (v + 1).toNat ++ d.data.toList) (by omega)
 obtain ⟨f3, v3⟩ := find_var (v + 1).toNat d.data.toList (by omega)
 have hp : Parts (showR ⟨k, t, i, v, d⟩) (txt (vF 6 t.toNat ++ (vF 6 i.toNat ++ (vF 6 (v + 1).toNat ++ d.data.toList)))) (txt (vF 6 i.toNat ++ (vF 6 (v + 1).toNat ++ d.data.toList))) (txt (vF 6 (v + 1).toNat ++ d.data.toList)) d (vF 6 t.toNat).length (vF 6 i.toNat).length (vF 6 (v + 1).toNat).length := by
  refine ⟨by rw [e, txt_size]; simp, ?_, f1, (txt_behind _ _ _ rfl).symm, f2, (txt_behind _ _ _ rfl).symm, f3, ?_⟩
  ·rw [e]
   exact (txt_behind [byt k.toNat] _ _ rfl).symm
  ·rw [txt_behind _ _ _ rfl, txt_toList]
 have hr : partsR (showR ⟨k, t, i, v, d⟩) (txt (vF 6 t.toNat ++ (vF 6 i.toNat ++ (vF 6 (v + 1).toNat ++ d.data.toList)))) (txt (vF 6 i.toNat ++ (vF 6 (v + 1).toNat ++ d.data.toList))) (txt (vF 6 (v + 1).toNat ++ d.data.toList)) d (vF 6 t.toNat).length (vF 6 i.toNat).length (vF 6 (v + 1).toNat).length = ⟨k, t, i, v, d⟩ := by
  unfold partsR
  rw [v1, v2, v3]
  have hb : bn (showR ⟨k, t, i, v, d⟩) 0 = k.toNat := by
   rw [e, bn_cat _ _ 0 (by simp)]
   simp [byt_toNat]
   omega
  rw [hb]
  congr 1 <;> omega
 exact ⟨_, _, _, _, _, _, _, hp, hr⟩
theorem implReadShow (q : Rcd) (h : recOk q = true) (w : World) (hs : (showR q).size ≤ 1048576) : Calls Try.prog 9 #[.string (showR q)] w fun e w' => e = .returned (.tuple #[vRcd q, .bool true]) ∧ Below w.heap.size w w' := by
 obtain ⟨s1, s2, s3, s4, k1, k2, k3, hp, hr⟩ := parts_show q h
 have c := implReadRec_at (showR q) s1 s2 s3 s4 k1 k2 k3 w hs hp
 rw [hr] at c
 unfold toldO at c
 rw [if_pos h] at c
 exact c
end Go.Proofs.Ytfmannphobjgpaa
namespace Go.Proofs.Ytfmannphobjgpaa
open Go.RowKit Go.PlainAid
def strCells (l : List ByteArray) : List Value := l.map Value.string
def Strs (w : World) (base : Nat) (v : Value) (l : List ByteArray) : Prop := w.ownsRow base 9 1 v l.length (strCells l)
theorem Strs.nil (w : World) (base : Nat) : Strs w base (.slice none 0 0) [] := World.ownsRow_nil w base 9 1
theorem Strs.empty (w : World) (base : Nat) (hb : base ≤ w.heap.size) : Strs (w.alloc (.cells #[] 9)) base (.slice (some ⟨w.heap.size, 0, none⟩) 0 0) [] :=
 World.ownsRow_lit w #[] 0 hb (by unfold maxLen; omega) rfl
theorem Strs.mono {w : World} {base base' : Nat} {v : Value} {l : List ByteArray} (h : Strs w base v l) (hb : base' ≤ base) : Strs w base' v l :=
 ⟨h.1, h.2.imp id fun ⟨g, cap, cur, e, hg, r⟩ => ⟨g, cap, cur, e, Nat.le_trans hb hg, r⟩⟩
theorem Strs.kept {w w' : World} {base : Nat} {v : Value} {l : List ByteArray} (h : Strs w base v l) (hk : ∀ g, g < w.heap.size → v.ownBlock = some g → w'.heap[g]? = w.heap[g]?) : Strs w' base v l := by
 have hl := World.ownsRow.lt h
 refine ⟨h.1, h.2.imp id ?_⟩
 rintro ⟨g, cap, cur, rfl, hg, hh, r⟩
 refine ⟨g, cap, cur, rfl, hg, ?_, r⟩
 rw [hk g (hl g rfl).2 rfl]
 exact hh
theorem Strs.on {w w' : World} {base : Nat} {v : Value} {l : List ByteArray} (h : Strs w base v l) (hb : Below w.heap.size w w') : Strs w' base v l := h.kept fun g hg _ => hb.block g hg
theorem Strs.alloc {w : World} {base : Nat} {v : Value} {l : List ByteArray} (h : Strs w base v l) (o : Obj) : Strs (w.alloc o) base v l := World.ownsRow.alloc h o
theorem Strs.form {w : World} {base : Nat} {v : Value} {l : List ByteArray} (h : Strs w base v l) : (v = .slice none 0 0 ∧ l = []) ∨ ∃ g cap, v = .slice (some ⟨g, 0, none⟩) l.length cap ∧ base ≤ g ∧ g < w.heap.size := by
 have hl := World.ownsRow.lt h
 rcases h.2 with ⟨rfl, h0⟩ | ⟨g, cap, cur, rfl, hg, _⟩
 ·exact .inl ⟨rfl, List.eq_nil_of_length_eq_zero h0⟩
 ·exact .inr ⟨g, cap, rfl, hg, (hl g rfl).2⟩
theorem Strs.cell {w : World} {base g cap : Nat} {l : List ByteArray} (h : Strs w base (.slice (some ⟨g, 0, none⟩) l.length cap) l) (j : Nat) (hj : j < l.length) : w.cell? ⟨g, j, none⟩ = some (.string l[j]) := by
 rw [World.ownsRow.cellAt h j (by omega)]
 simp [strCells, hj]
end Go.Proofs.Ytfmannphobjgpaa
namespace Go.Proofs.Ytfmannphobjgpaa
open Go.ChangeShapes Go.WideShapes Go.ChangeAt Go.RowKit Go.PlainAid
set_option linter.unusedVariables false
theorem cell?_heap {w w' : World} (h : w'.heap = w.heap) (a : Addr) : w'.cell? a = w.cell? a := by
 unfold World.cell?
 rw [h]
theorem Strs.heap {w w' : World} {base : Nat} {v : Value} {l : List ByteArray} (h : Strs w base v l) (hh : w'.heap = w.heap) : Strs w' base v l := h.kept fun g _ _ => by rw [hh]
theorem below_heap {w w' : World} (h1 : w'.heap = w.heap) (h2 : w'.os = w.os) (h3 : w'.tape = w.tape) (h4 : w'.output = w.output) : Below w.heap.size w w' := ⟨h2, h3, h4, by rw [h1]; exact Nat.le_refl _, fun k _ => by rw [h1]⟩
def Like (w w' : World) : Prop := w'.heap = w.heap ∧ w'.os = w.os ∧ w'.tape = w.tape ∧ w'.output = w.output
theorem Like.refl (w : World) : Like w w := ⟨rfl, rfl, rfl, rfl⟩
theorem Like.drewN {w w' : World} (h : Like w w') (n : Nat) : Like w (w'.drewN n) := h
theorem Like.below {w w' : World} (h : Like w w') : Below w.heap.size w w' := below_heap h.1 h.2.1 h.2.2.1 h.2.2.2
end Go.Proofs.Ytfmannphobjgpaa
namespace Go.Proofs.Ytfmannphobjgpaa
open Go.ChangeShapes Go.WideShapes Go.ChangeAt Go.RowKit Go.PlainAid
set_option linter.unusedVariables false
set_option maxHeartbeats 2000000 in
theorem sameEnts (l : List Ent) (va vb : Value) (w : World) (B : Nat) (ha : Lies w B 2 va (entR l)) (hb : Lies w B 2 vb (entR l)) (hn : l.length ≤ 1048576) :
  Calls Try.prog 30 #[va, vb] w fun e w' => e = .returned (.bool true) ∧ Like w w' := by
 obtain ⟨A, cap, rfl, hl⟩ := ent_look ha
 obtain ⟨A', cap', rfl, hl'⟩ := ent_look hb
 have HL : Hid (∀ j, j < l.length → ∃ g off, A = some ⟨g, off, none⟩ ∧ g < B ∧ _) := hl
 have HL' : Hid (∀ j, j < l.length → ∃ g off, A' = some ⟨g, off, none⟩ ∧ g < B ∧ _) := hl'
 have q1 : (l.length : Int) ≤ 1048576 := by omega
 clear hl hl' ha hb hn
 generalize hN : l.length = n at *
 clear hN
 go_enter Try.func30, Try.ntmps30
 go_wp2_with fail
 go_loopw [5] (fun v5 wr => ∃ k : Nat, k ≤ n ∧ v5 = .int .i64 (k : Int) ∧ Like w wr) (fun i _ => n - (intOf i).toNat)
 case atStart => exact ⟨0, by omega, rfl, Like.refl _⟩
 case round =>
  obtain ⟨k, hk, rfl, hLk⟩ := hrel
  have HLk : Hid (Like w wr) := hLk
  by_cases hlt : k < n
  ·have q4 : (k : Int) < (n : Int) := by omega
   obtain ⟨g, off, rfl, hg, a0, a1⟩ := HL.out k hlt
   obtain ⟨g', off', rfl, hg', b0, b1⟩ := HL'.out k hlt
   rw [← cell?_heap hLk.1] at a0 a1 b0 b1
   generalize (l.getD k default).term = xt at *
   generalize (l.getD k default).data = xd at *
   have S0 : Hid (wr.drew.cell? ⟨g, off + k * 2, none⟩ = some (.int .i64 xt) ∧ wr.drew.cell? ⟨g, off + k * 2 + 1, none⟩ = some (.string xd) ∧ wr.drew.cell? ⟨g', off' + k * 2, none⟩ = some (.int .i64 xt) ∧ wr.drew.cell? ⟨g', off' + k * 2 + 1, none⟩ = some (.string xd)) := ⟨a0, a1, b0, b1⟩
   have hx : (xd.toList == xd.toList) = true := by simp
   clear a0 a1 b0 b1 hg hg' hLk
   go_wp2_with fail
   refine wp_region_until (fun w' => w'.cell? ⟨g, off + k * 2, none⟩ = some (.int .i64 xt) ∧ w'.cell? ⟨g, off + k * 2 + 1, none⟩ = some (.string xd) ∧ w'.cell? ⟨g', off' + k * 2, none⟩ = some (.int .i64 xt) ∧ w'.cell? ⟨g', off' + k * 2 + 1, none⟩ = some (.string xd)) (fun _ => false) 9 (by rfl) (by kernel_rfl) ?_
   refine until_pure 0 (v := ?_) (by rfl) (by kernel_rfl) (by exact fun _ _ _ h => h) (by rfl) ?_ ?_
   rotate_left
   ·intro w
    go_simp
    try with_reducible rfl
   try simp only [Act.put, setIfInBounds_toArray, set_cons_zero, set_cons_succ]
   refine until_pure 1 (v := ?_) (by rfl) (by kernel_rfl) (by exact fun _ _ _ h => h) (by rfl) ?_ ?_
   rotate_left
   ·intro w
    go_simp
    try with_reducible rfl
   try simp only [Act.put, setIfInBounds_toArray, set_cons_zero, set_cons_succ]
   refine until_pure 2 (v := ?_) (by rfl) (by kernel_rfl) (by exact fun _ _ _ h => h) (by rfl) ?_ ?_
   rotate_left
   ·intro w
    go_simp
    try with_reducible rfl
   try simp only [Act.put, setIfInBounds_toArray, set_cons_zero, set_cons_succ]
   refine until_take 3 (v := ?_) (by rfl) (by kernel_rfl) (by exact fun _ _ _ h => h) (by rfl) ?_ S0.out ?_
   rotate_left
   ·intro w hSw
    try dsimp only at hSw
    go_simp
    try with_reducible rfl
   try simp only [Act.put, setIfInBounds_toArray, set_cons_zero, set_cons_succ]
   refine until_pure 4 (v := ?_) (by rfl) (by kernel_rfl) (by exact fun _ _ _ h => h) (by rfl) ?_ ?_
   rotate_left
   ·intro w
    go_simp
    try with_reducible rfl
   try simp only [Act.put, setIfInBounds_toArray, set_cons_zero, set_cons_succ]
   refine until_pure 5 (v := ?_) (by rfl) (by kernel_rfl) (by exact fun _ _ _ h => h) (by rfl) ?_ ?_
   rotate_left
   ·intro w
    go_simp
    try with_reducible rfl
   try simp only [Act.put, setIfInBounds_toArray, set_cons_zero, set_cons_succ]
   refine until_pure 6 (v := ?_) (by rfl) (by kernel_rfl) (by exact fun _ _ _ h => h) (by rfl) ?_ ?_
   rotate_left
   ·intro w
    go_simp
    try with_reducible rfl
   try simp only [Act.put, setIfInBounds_toArray, set_cons_zero, set_cons_succ]
   refine until_take 7 (v := ?_) (by rfl) (by kernel_rfl) (by exact fun _ _ _ h => h) (by rfl) ?_ S0.out ?_
   rotate_left
   ·intro w hSw
    try dsimp only at hSw
    go_simp
    try with_reducible rfl
   try simp only [Act.put, setIfInBounds_toArray, set_cons_zero, set_cons_succ]
   refine until_pure 8 (v := ?_) (by rfl) (by kernel_rfl) (by exact fun _ _ _ h => h) (by rfl) ?_ ?_
   rotate_left
   ·intro w
    go_simp
    try with_reducible rfl
   try simp only [Act.put, setIfInBounds_toArray, set_cons_zero, set_cons_succ]
   refine until_done (by kernel_rfl) ?_ _
   go_wp2_with fail
   go_roundw
   case rel => exact ⟨k + 1, by omega, by go_num, HLk.out⟩
   case measure => simp [intOf]; omega
  ·obtain rfl : k = n := by omega
   go_wp2_with fail
   go_ret
   exact ⟨rfl, hLk⟩
set_option maxHeartbeats 2000000 in
theorem sameW (x : Wl) (va vb : Value) (w : World) (B : Nat) (ha : WalV w B va x) (hb : WalV w B vb x) (hB : B ≤ w.heap.size) (hn : x.ents.length ≤ 1048576) :
  Calls Try.prog 11 #[va, vb] w fun e w' => e = .returned (.bool true) ∧ Below w.heap.size w w' := by
 obtain ⟨ua, rfl, hla⟩ := ha
 obtain ⟨ub, rfl, hlb⟩ := hb
 obtain ⟨A, cap, rfl, -⟩ := ent_look hla
 obtain ⟨A', cap', rfl, -⟩ := ent_look hlb
 have hb2 : Below w.heap.size w ((w.alloc (.cells #[.int .i64 x.term, .int .i64 x.vote, .int .i64 x.base, .int .i64 x.bterm, .slice A x.ents.length cap] 26)).alloc (.cells #[.int .i64 x.term, .int .i64 x.vote, .int .i64 x.base, .int .i64 x.bterm, .slice A' x.ents.length cap'] 26)) := ((Below.refl _ w).alloc (Nat.le_refl _) _).alloc (by simp) _
 have cS := sameEnts x.ents _ _ _ B (hla.on (hb2.mono hB)) (hlb.on (hb2.mono hB)) hn
 have B2 : Hid (Below w.heap.size w ((w.alloc (.cells #[.int .i64 x.term, .int .i64 x.vote, .int .i64 x.base, .int .i64 x.bterm, .slice A x.ents.length cap] 26)).alloc (.cells #[.int .i64 x.term, .int .i64 x.vote, .int .i64 x.base, .int .i64 x.bterm, .slice A' x.ents.length cap'] 26))) := hb2
 clear hb2 hla hlb
 obtain ⟨xt, xv, xb, xbt, xe⟩ := x
 dsimp only at *
 generalize hN : xe.length = n at *
 clear hN hn
 go_enter Try.func11, Try.ntmps11
 go_wp2_with fail
 refine cS.mono ?_
 rintro e w1 ⟨rfl, hL⟩
 have B3 : Hid (Below w.heap.size w w1) := B2.out.trans (hL.below.mono B2.out.size)
 clear hL
 go_wp2_with fail
 go_ret
 exact ⟨rfl, B3.out⟩
end Go.Proofs.Ytfmannphobjgpaa
