/- MgRd MgRes MgReA MgPc WkTo MgReS MgTk MgCp MgShI -/
import Derived.Test.YtifmjdakefkbiaaGreatDoorRows
import Derived.Test.YtifmjdakefkbiaaGreatDoorQx9
import Derived.Test.YtifmjdakefkbiaaGreatDoorQx0
import Derived.WalkKit
import Derived.ProofKit
import Derived.Below
import Derived.Laws.StructEq
import Derived.Laws.DeepStrings4
import Derived.Deep.Cut
import Derived.Deep.CutRange
import Derived.Handy
import Derived.WalkSmall
import Derived.Test.YtifmjdakefkbiaaGreatDoorQx2
import Derived.Test.YtifmjdakefkbiaaGreatDoorQt0
import Derived.Test.YtifmjdakefkbiaaGreatDoorQt1
import Derived.Test.YtifmjdakefkbiaaGreatDoorQt2
import Derived.Test.YtifmjdakefkbiaaGreatDoorQt3
import Derived.Test.YtifmjdakefkbiaaGreatDoorQt4
import Derived.Test.YtifmjdakefkbiaaGreatDoorQt5
import Derived.Test.YtifmjdakefkbiaaGreatDoorQt6
import Derived.Test.YtifmjdakefkbiaaGreatDoorQt7
import Derived.Test.YtifmjdakefkbiaaGreatDoorQt8
import Derived.Test.YtifmjdakefkbiaaGreatDoorQt9
import Derived.Test.YtifmjdakefkbiaaGreatDoorQt10
import Derived.Test.YtifmjdakefkbiaaGreatDoorQt11
import Derived.Test.YtifmjdakefkbiaaGreatDoorQt12
import Derived.Test.YtifmjdakefkbiaaGreatDoorQt13
open List (setIfInBounds_toArray set_cons_zero set_cons_succ)
namespace Go.Proofs.YtifmjdakefkbiaaGreatDoor
open Go.ChangeShapes Go.WideShapes Go.ChangeAt Go.RowKit Go.PlainAid
set_option linter.unusedVariables false
theorem noMany {s : ByteArray} {l : List Int} {n1 : Nat} {z : Int} (h : RdF s 4 9 l n1) (hz : l.getD 8 0 = z) (h4 : 4 < z) : ∀ x, ¬ MgRd s x := by
 rintro x ⟨_, _, _, ⟨h1, h2, _⟩, _⟩
 obtain ⟨rfl, rfl⟩ := h.one h1
 simp at hz
 omega
theorem noEnts {s : ByteArray} {l : List Int} {n1 k : Nat} (h : RdF s 4 9 l n1) (hz : l.getD 8 0 = (k : Int)) (hn : ∀ es n, ¬ RdL (EnRd s) n1 k es n) : ∀ x, ¬ MgRd s x := by
 rintro x ⟨_, _, _, ⟨h1, h2, h3, _⟩, _⟩
 obtain ⟨rfl, rfl⟩ := h.one h1
 have : (x.ents.length : Int) = (k : Int) := by simpa using hz
 have : x.ents.length = k := by omega
 rw [this] at h3
 exact hn _ _ h3
end Go.Proofs.YtifmjdakefkbiaaGreatDoor
namespace Go.Proofs.YtifmjdakefkbiaaGreatDoor
open Go.ChangeShapes Go.WideShapes Go.ChangeAt Go.RowKit Go.PlainAid
set_option linter.unusedVariables false
end Go.Proofs.YtifmjdakefkbiaaGreatDoor
namespace Go.Proofs.YtifmjdakefkbiaaGreatDoor
open Go.ChangeShapes Go.WideShapes Go.ChangeAt Go.RowKit Go.PlainAid
set_option linter.unusedVariables false
theorem nine_of {l : List Int} (h : l.length = 9) : ∃ a b c d e f g i j, l = [a, b, c, d, e, f, g, i, j] := by
 match l, h with
 | [a, b, c, d, e, f, g, i, j], _ => exact ⟨a, b, c, d, e, f, g, i, j, rfl⟩
end Go.Proofs.YtifmjdakefkbiaaGreatDoor
namespace Go.Proofs.YtifmjdakefkbiaaGreatDoor
open Go.ChangeShapes Go.WideShapes Go.ChangeAt Go.RowKit Go.PlainAid
set_option linter.unusedVariables false
theorem one_of {l : List Int} (h : l.length = 1) : ∃ a, l = [a] := by
 match l, h with
 | [a], _ => exact ⟨a, rfl⟩
def PcA (s : ByteArray) (a : Nat) (e : Ending) : Prop := (∃ t n, PcRd s a t n ∧ e = .returned (.tuple #[.string t, .int .i64 ((n : Nat) : Int)])) ∨ ((∀ t n, ¬ PcRd s a t n) ∧ e = .returned (.tuple #[.string ⟨#[]⟩, .int .i64 (-1)]))
set_option maxHeartbeats 2000000 in
theorem specPieceAt (s : ByteArray) (a : Nat) (w : World) (hs : s.size ≤ 1048576) (ha : a ≤ 2097152) :
  Calls Tryz.prog 67 #[.string s, .int .i64 (a : Int)] w fun e w' => PcA s a e ∧ Below w.heap.size w w' := by
 have c := fun wx => specVars s a 1 wx hs ha (by omega)
 have HS : Hid (s.size ≤ 1048576) := hs
 clear hs ha
 go_enter Tryz.func67, Tryz.ntmps67
 go_wp2_with fail
 refine (c _).mono ?_
 rintro e w1 ⟨hR, hb1⟩
 have B1 : Hid (Below w.heap.size w w1) := hb1
 clear hb1 c
 rcases hR with ⟨l, n, u, hR, rfl, hN⟩ | ⟨hno, u, rfl⟩
 rotate_left
 ·have HN : Hid (∀ t n, ¬ PcRd s a t n) := by
   rintro t n ⟨b, h1, _⟩
   exact hno _ _ h1
  clear hno
  go_wp2_with fail
  go_ret2
  exact ⟨.inr ⟨HN.out, rfl⟩, B1.out⟩
 obtain ⟨z, rfl⟩ := one_of hR.length
 have HR : Hid (RdF s a 1 [z] n) := hR
 have hns := hR.ge.2 (by omega)
 have hz := hR.bound z (by simp)
 obtain ⟨zn, rfl⟩ : ∃ zn : Nat, z = (zn : Int) := ⟨_, (Int.toNat_of_nonneg hz.1).symm⟩
 obtain ⟨g, cap, rfl⟩ : ∃ g cap, u = .slice (some ⟨g, 0, none⟩) 1 cap := by
  rcases hN.form with ⟨_, h⟩ | ⟨g, cap, h, _⟩
  ·cases h
  ·exact ⟨g, cap, h⟩
 have e0 : w1.cell? ⟨g, 0, none⟩ = some (.int .i64 (zn : Int)) := hN.cell 0 (by simp)
 have q0 : ¬ (n : Int) < 0 := by omega
 have q1 : (n : Int) ≤ (s.size : Int) := by omega
 have q2 : (s.size : Int) ≤ 1048576 := by have := HS.out; omega
 have e9 : IntKind.i64.wrap ((s.size : Int) - (n : Int)) = (s.size : Int) - (n : Int) := by rw [IntKind.wrap_i64]; omega
 have q4 : (zn : Int) ≤ 562949953421311 := hz.2
 have q5 : (0 : Int) ≤ (zn : Int) := by omega
 clear hR hN hz
 by_cases hzn : n + zn ≤ s.size
 rotate_left
 ·have HN : Hid (∀ t n, ¬ PcRd s a t n) := by
   rintro t m ⟨b, h1, h2, h3, h4⟩
   obtain ⟨e, rfl⟩ := h1.one HR.out
   simp only [List.cons.injEq, and_true] at e
   omega
  have q3 : (s.size : Int) - (n : Int) < (zn : Int) := by omega
  clear hzn hns
  go_wp2_with fail
  go_ret2
  exact ⟨.inr ⟨HN.out, rfl⟩, B1.out⟩
 have q3 : ¬ (s.size : Int) - (n : Int) < (zn : Int) := by omega
 have HP : Hid (PcRd s a (s.extract n (n + zn)) (n + zn)) := by
  have hsz : (s.extract n (n + zn)).size = zn := by rw [ByteArray.size_extract]; omega
  refine ⟨n, ?_, by rw [hsz], hzn, rfl⟩
  rw [hsz]
  exact HR.out
 have e8 : IntKind.i64.wrap ((n : Int) + (zn : Int)) = ((n + zn : Nat) : Int) := by rw [IntKind.wrap_i64]; omega
 have q6 : (n : Int) ≤ ((n + zn : Nat) : Int) := by omega
 have q7 : ((n + zn : Nat) : Int) ≤ (s.size : Int) := by omega
 generalize n + zn = m at *
 clear hzn hns
 go_wp2_with fail
 have S0 : Hid (w1.drew.cell? ⟨g, 0, none⟩ = some (.int .i64 (zn : Int))) := e0
 have B2 : Hid (Below w.heap.size w w1.drew) := B1.out.drew
 refine wp_region_until (fun w' => w'.cell? ⟨g, 0, none⟩ = some (.int .i64 (zn : Int))) (fun _ => false) 15 (by rfl) (by kernel_rfl) ?_
 clear e0 B1
 generalize w1.drew = Y at *
 refine tF 0 S0.out ?_
 refine tF 1 S0.out ?_
 refine tF 2 S0.out ?_
 refine tF 3 S0.out ?_
 refine tF 4 S0.out ?_
 refine tF 5 S0.out ?_
 refine tF 6 S0.out ?_
 refine tF 7 S0.out ?_
 refine tF 8 S0.out ?_
 refine tF 9 S0.out ?_
 refine tF 10 S0.out ?_
 refine tF 11 S0.out ?_
 refine tF 12 S0.out ?_
 refine pF 13 ?_
 refine pF 14 ?_
 refine until_done (by kernel_rfl) ?_ _
 go_wp2_with fail
 go_ret2
 exact ⟨.inl ⟨_, m, HP.out, rfl⟩, B2.out⟩
end Go.Proofs.YtifmjdakefkbiaaGreatDoor
namespace Go.Proofs.YtifmjdakefkbiaaGreatDoor
open Go.ChangeShapes Go.WideShapes Go.ChangeAt Go.RowKit Go.PlainAid
set_option linter.unusedVariables false
end Go.Proofs.YtifmjdakefkbiaaGreatDoor
namespace Go.Proofs.YtifmjdakefkbiaaGreatDoor
open Go.ChangeShapes Go.WideShapes Go.ChangeAt Go.RowKit Go.PlainAid
set_option linter.unusedVariables false
set_option maxRecDepth 20000 in
set_option maxHeartbeats 16000000 in
theorem specReadMsg (s : ByteArray) (w : World) (hs : s.size ≤ 1048576) :
  Calls Tryz.prog 24 #[.string s] w fun e w' => MgA s w.heap.size e w' ∧ Below w.heap.size w w' := by
 have HS : Hid (s.size ≤ 1048576) := hs
 have qs : (s.size : Int) ≤ 1048576 := by omega
 have D0 : Hid (Below w.heap.size w (w.alloc (.cells #[.int .i64 0, .int .i64 0, .int .i64 0, .int .i64 0, .int .i64 0, .int .i64 0, .int .i64 0, .bool false, .slice none 0 0, .string ⟨#[]⟩] 31))) := (Below.refl _ w).alloc (Nat.le_refl _) _
 have R0 := Hid.mkM (Blk.new w #[.int .i64 0, .int .i64 0, .int .i64 0, .int .i64 0, .int .i64 0, .int .i64 0, .int .i64 0, .bool false, .slice none 0 0, .string ⟨#[]⟩] 31)
 clear hs
 go_enter Tryz.func24, Tryz.ntmps24
 go_wp2_with fail
 generalize w.alloc (.cells #[.int .i64 0, .int .i64 0, .int .i64 0, .int .i64 0, .int .i64 0, .int .i64 0, .int .i64 0, .bool false, .slice none 0 0, .string ⟨#[]⟩] 31) = X0 at *
 refine (specVars s 4 9 X0 HS.out (by omega) (by omega)).mono ?_
 rintro e X1 ⟨hR, hb⟩
 have D1 : Hid (Below w.heap.size w X1) := D0.out.trans (hb.mono D0.out.size)
 have R1 := Hid.mkM (R0.out.on hb R0.out.lt)
 clear hb D0 R0
 rcases hR with ⟨l, n1, u, hR, rfl, hN⟩ | ⟨hno, u, rfl⟩
 rotate_left
 ·have HN : Hid (∀ x, ¬ MgRd s x) := noVars hno
  clear hno
  obtain ⟨⟨r0, f0⟩, ⟨r1, f1⟩, ⟨r2, f2⟩, ⟨r3, f3⟩, ⟨r4, f4⟩, ⟨r5, f5⟩, ⟨r6, f6⟩, ⟨r7, f7⟩, ⟨r8, f8⟩, ⟨r9, f9⟩, y0, y1, y2, y3, y4, y5, y6, y7, y8, y9⟩ := resC10 (x0 := .int .i64 0) (x1 := .int .i64 0) (x2 := .int .i64 0) (x3 := .int .i64 0) (x4 := .int .i64 0) (x5 := .int .i64 0) (x6 := .int .i64 0) (x7 := .bool false) (x8 := .slice none 0 0) (x9 := .string ⟨#[]⟩) R1.out
  have BE := Hid.mkM (belowC10 D1.out (Nat.le_refl _) (.int .i64 0) (.int .i64 0) (.int .i64 0) (.int .i64 0) (.int .i64 0) (.int .i64 0) (.int .i64 0) (.bool false) (.slice none 0 0) (.string ⟨#[]⟩))
  go_wp2_with fail
  exact bodyPost_ret (v := .tuple #[.agg #[.int .i64 0, .int .i64 0, .int .i64 0, .int .i64 0, .int .i64 0, .int .i64 0, .int .i64 0, .bool false, .slice none 0 0, .string ⟨#[]⟩], .bool false]) (by simp [results, go_sem, y0, y1, y2, y3, y4, y5, y6, y7, y8, y9]) rfl ⟨⟨_, _, _, .inr ⟨HN.out, rfl, rfl⟩, rfl, MgO.zero _ _⟩, BE.out⟩
 obtain ⟨z0, z1, z2, z3, z4, z5, z6, z7, z8, rfl⟩ := nine_of hR.length
 have HR1 := Hid.mkM hR
 have hns := hR.inS
 have hz7 := hR.bound z7 (by simp)
 have hz8 := hR.bound z8 (by simp)
 obtain ⟨yn, rfl⟩ : ∃ n : Nat, z7 = (n : Int) := ⟨_, (Int.toNat_of_nonneg hz7.1).symm⟩
 obtain ⟨kn, rfl⟩ : ∃ n : Nat, z8 = (n : Int) := ⟨_, (Int.toNat_of_nonneg hz8.1).symm⟩
 obtain ⟨gl, cap, rfl, hglt⟩ : ∃ g cap, u = .slice (some ⟨g, 0, none⟩) 9 cap ∧ g < X1.heap.size := by
  rcases hN.form with ⟨_, h⟩ | ⟨g, cap, h, _, _, h1, h2⟩
  ·cases h
  ·exact ⟨g, cap, h, h2⟩
 have e0 : X1.cell? ⟨gl, 0, none⟩ = some (.int .i64 z0) := hN.cell 0 (by simp)
 have e1 : X1.cell? ⟨gl, 1, none⟩ = some (.int .i64 z1) := hN.cell 1 (by simp)
 have e2 : X1.cell? ⟨gl, 2, none⟩ = some (.int .i64 z2) := hN.cell 2 (by simp)
 have e3 : X1.cell? ⟨gl, 3, none⟩ = some (.int .i64 z3) := hN.cell 3 (by simp)
 have e4 : X1.cell? ⟨gl, 4, none⟩ = some (.int .i64 z4) := hN.cell 4 (by simp)
 have e5 : X1.cell? ⟨gl, 5, none⟩ = some (.int .i64 z5) := hN.cell 5 (by simp)
 have e6 : X1.cell? ⟨gl, 6, none⟩ = some (.int .i64 z6) := hN.cell 6 (by simp)
 have e7 : X1.cell? ⟨gl, 7, none⟩ = some (.int .i64 (yn : Int)) := hN.cell 7 (by simp)
 have e8 : X1.cell? ⟨gl, 8, none⟩ = some (.int .i64 (kn : Int)) := hN.cell 8 (by simp)
 have q0 : ¬ (n1 : Int) < 0 := by omega
 have HN1 : Hid (n1 ≤ s.size) := hns.2
 have HGL : Hid (gl < X1.heap.size) := hglt
 clear hR hN hns hz7 hz8 hglt
 by_cases h4 : kn ≤ 4
 rotate_left
 ·have HN : Hid (∀ x, ¬ MgRd s x) := noMany (z := (kn : Int)) HR1.out rfl (by omega)
  have q8 : (4 : Int) < (kn : Int) := by omega
  clear h4
  obtain ⟨⟨r0, f0⟩, ⟨r1, f1⟩, ⟨r2, f2⟩, ⟨r3, f3⟩, ⟨r4, f4⟩, ⟨r5, f5⟩, ⟨r6, f6⟩, ⟨r7, f7⟩, ⟨r8, f8⟩, ⟨r9, f9⟩, y0, y1, y2, y3, y4, y5, y6, y7, y8, y9⟩ := resC10 (x0 := .int .i64 0) (x1 := .int .i64 0) (x2 := .int .i64 0) (x3 := .int .i64 0) (x4 := .int .i64 0) (x5 := .int .i64 0) (x6 := .int .i64 0) (x7 := .bool false) (x8 := .slice none 0 0) (x9 := .string ⟨#[]⟩) R1.out
  have BE := Hid.mkM (belowC10 D1.out (Nat.le_refl _) (.int .i64 0) (.int .i64 0) (.int .i64 0) (.int .i64 0) (.int .i64 0) (.int .i64 0) (.int .i64 0) (.bool false) (.slice none 0 0) (.string ⟨#[]⟩))
  go_wp2_with fail
  exact bodyPost_ret (v := .tuple #[.agg #[.int .i64 0, .int .i64 0, .int .i64 0, .int .i64 0, .int .i64 0, .int .i64 0, .int .i64 0, .bool false, .slice none 0 0, .string ⟨#[]⟩], .bool false]) (by simp [results, go_sem, y0, y1, y2, y3, y4, y5, y6, y7, y8, y9]) rfl ⟨⟨_, _, _, .inr ⟨HN.out, rfl, rfl⟩, rfl, MgO.zero _ _⟩, BE.out⟩
 have q8 : ¬ (4 : Int) < (kn : Int) := by omega
 have H4 : Hid (kn ≤ 4) := h4
 have HS1 : Hid (∀ wx, Below X1.heap.size X1 wx → wx.cell? ⟨gl, 0, none⟩ = some (.int .i64 z0) ∧ wx.cell? ⟨gl, 1, none⟩ = some (.int .i64 z1) ∧ wx.cell? ⟨gl, 2, none⟩ = some (.int .i64 z2) ∧ wx.cell? ⟨gl, 3, none⟩ = some (.int .i64 z3) ∧ wx.cell? ⟨gl, 4, none⟩ = some (.int .i64 z4) ∧ wx.cell? ⟨gl, 5, none⟩ = some (.int .i64 z5) ∧ wx.cell? ⟨gl, 6, none⟩ = some (.int .i64 z6) ∧ wx.cell? ⟨gl, 7, none⟩ = some (.int .i64 (yn : Int)) ∧ wx.cell? ⟨gl, 8, none⟩ = some (.int .i64 (kn : Int))) := fun wx hx => ⟨(hx.cell (p := ⟨gl, 0, none⟩) HGL.out).trans e0, (hx.cell (p := ⟨gl, 1, none⟩) HGL.out).trans e1, (hx.cell (p := ⟨gl, 2, none⟩) HGL.out).trans e2, (hx.cell (p := ⟨gl, 3, none⟩) HGL.out).trans e3, (hx.cell (p := ⟨gl, 4, none⟩) HGL.out).trans e4, (hx.cell (p := ⟨gl, 5, none⟩) HGL.out).trans e5, (hx.cell (p := ⟨gl, 6, none⟩) HGL.out).trans e6, (hx.cell (p := ⟨gl, 7, none⟩) HGL.out).trans e7, (hx.cell (p := ⟨gl, 8, none⟩) HGL.out).trans e8⟩
 go_wp2_with fail
 clear e0 e1 e2 e3 e4 e5 e6 e7 e8
 refine wp_region_until (fun w' => w'.cell? ⟨gl, 0, none⟩ = some (.int .i64 z0) ∧ w'.cell? ⟨gl, 1, none⟩ = some (.int .i64 z1) ∧ w'.cell? ⟨gl, 2, none⟩ = some (.int .i64 z2) ∧ w'.cell? ⟨gl, 3, none⟩ = some (.int .i64 z3) ∧ w'.cell? ⟨gl, 4, none⟩ = some (.int .i64 z4) ∧ w'.cell? ⟨gl, 5, none⟩ = some (.int .i64 z5) ∧ w'.cell? ⟨gl, 6, none⟩ = some (.int .i64 z6) ∧ w'.cell? ⟨gl, 7, none⟩ = some (.int .i64 (yn : Int)) ∧ w'.cell? ⟨gl, 8, none⟩ = some (.int .i64 (kn : Int))) (fun i => i == 27) 28 (by rfl) (by kernel_rfl) ?_
 have V0 : Hid (Below X1.heap.size X1 X1.drew) := (Below.refl _ _).drew
 generalize X1.drew = Y0 at *
 refine tF 0 (HS1.out _ V0.out) ?_
 refine tF 1 (HS1.out _ V0.out) ?_
 refine tF 2 (HS1.out _ V0.out) ?_
 refine tF 3 (HS1.out _ V0.out) ?_
 refine tF 4 (HS1.out _ V0.out) ?_
 refine tF 5 (HS1.out _ V0.out) ?_
 refine tF 6 (HS1.out _ V0.out) ?_
 refine tF 7 (HS1.out _ V0.out) ?_
 refine tF 8 (HS1.out _ V0.out) ?_
 refine tF 9 (HS1.out _ V0.out) ?_
 refine tF 10 (HS1.out _ V0.out) ?_
 refine tF 11 (HS1.out _ V0.out) ?_
 refine tF 12 (HS1.out _ V0.out) ?_
 refine tF 13 (HS1.out _ V0.out) ?_
 refine tF 14 (HS1.out _ V0.out) ?_
 refine tF 15 (HS1.out _ V0.out) ?_
 refine tF 16 (HS1.out _ V0.out) ?_
 refine tF 17 (HS1.out _ V0.out) ?_
 refine tF 18 (HS1.out _ V0.out) ?_
 refine tF 19 (HS1.out _ V0.out) ?_
 refine tF 20 (HS1.out _ V0.out) ?_
 refine tF 21 (HS1.out _ V0.out) ?_
 refine tF 22 (HS1.out _ V0.out) ?_
 refine tF 23 (HS1.out _ V0.out) ?_
 refine pF 24 ?_
 refine pF 25 ?_
 obtain ⟨yb, hyb⟩ : ∃ yb : Bool, yb = ((yn : Int) == 1) := ⟨_, rfl⟩
 have HYB : Hid (yb = decide (yn = 1)) := by
  unfold Hid
  rw [hyb]
  by_cases h : yn = 1
  ·rw [h]; rfl
  ·rw [decide_eq_false h]; exact beq_eq_false_iff_ne.2 (by omega)
 try rw [← hyb]
 clear hyb
 refine uNe 26 (fun K hK => ?_)
 have ha := (Below.refl Y0.heap.size Y0).alloc (Nat.le_refl _) (.cells #[.int .i64 0, .int .i64 0, .int .i64 0, .int .i64 0, .int .i64 0, .int .i64 0, .int .i64 0, .bool false, .slice none 0 0, .string ⟨#[]⟩] 31)
 have V1 : Hid (Below X1.heap.size X1 (Y0.alloc (.cells #[.int .i64 0, .int .i64 0, .int .i64 0, .int .i64 0, .int .i64 0, .int .i64 0, .int .i64 0, .bool false, .slice none 0 0, .string ⟨#[]⟩] 31))) := V0.out.trans (ha.mono V0.out.size)
 have KB := Hid.mkM (Blk.new Y0 #[.int .i64 0, .int .i64 0, .int .i64 0, .int .i64 0, .int .i64 0, .int .i64 0, .int .i64 0, .bool false, .slice none 0 0, .string ⟨#[]⟩] 31)
 clear ha
 go_simp
 refine hK.out _ _ (fun _ _ => HS1.out _ V1.out) ?_
 clear hK K
 try simp only [Act.put, zQ1, zQ2, zQ3]
 generalize hgx : Y0.heap.size = gx at *
 have HGX : Hid (X1.heap.size ≤ gx) := by rw [← hgx]; exact V0.out.size
 generalize Y0.alloc (.cells #[.int .i64 0, .int .i64 0, .int .i64 0, .int .i64 0, .int .i64 0, .int .i64 0, .int .i64 0, .bool false, .slice none 0 0, .string ⟨#[]⟩] 31) = Y1 at *
 clear hgx V0
 obtain ⟨⟨r0, f0⟩, ⟨r1, f1⟩, ⟨r2, f2⟩, ⟨r3, f3⟩, ⟨r4, f4⟩, ⟨r5, f5⟩, ⟨r6, f6⟩, ⟨r7, f7⟩, ⟨r8, f8⟩, ⟨r9, f9⟩, _⟩ := resC10 (x0 := .int .i64 z0) (x1 := .int .i64 z1) (x2 := .int .i64 z2) (x3 := .int .i64 z3) (x4 := .int .i64 z4) (x5 := .int .i64 z5) (x6 := .int .i64 z6) (x7 := .bool yb) (x8 := .slice none 0 0) (x9 := .string ⟨#[]⟩) KB.out
 have KB2 := Hid.mkM (blkC10 (x0 := .int .i64 z0) (x1 := .int .i64 z1) (x2 := .int .i64 z2) (x3 := .int .i64 z3) (x4 := .int .i64 z4) (x5 := .int .i64 z5) (x6 := .int .i64 z6) (x7 := .bool yb) (x8 := .slice none 0 0) (x9 := .string ⟨#[]⟩) KB.out)
 have V2 := Hid.mkM (belowC10 V1.out HGX.out (.int .i64 z0) (.int .i64 z1) (.int .i64 z2) (.int .i64 z3) (.int .i64 z4) (.int .i64 z5) (.int .i64 z6) (.bool yb) (.slice none 0 0) (.string ⟨#[]⟩))
 clear V1 KB
 refine uNe 27 (fun K hK => ?_)
 go_simp
 refine hK.out _ _ (fun h => by cases h) ?_
 clear hK K r0 f0 r1 f1 r2 f2 r3 f3 r4 f4 r5 f5 r6 f6 r7 f7 r8 f8 r9 f9
 try simp only [Act.put, zQ1, zQ2, zQ3]
 refine until_done (by kernel_rfl) ?_ _
 have hV := V2.out
 have hK2 := KB2.out
 revert hV hK2
 clear V2 KB2
 generalize ((((((((((Y1.setCell ⟨gx, 0, none⟩ (.int .i64 z0)).setCell ⟨gx, 1, none⟩ (.int .i64 z1)).setCell ⟨gx, 2, none⟩ (.int .i64 z2)).setCell ⟨gx, 3, none⟩ (.int .i64 z3)).setCell ⟨gx, 4, none⟩ (.int .i64 z4)).setCell ⟨gx, 5, none⟩ (.int .i64 z5)).setCell ⟨gx, 6, none⟩ (.int .i64 z6)).setCell ⟨gx, 7, none⟩ (.bool yb)).setCell ⟨gx, 8, none⟩ (.slice none 0 0)).setCell ⟨gx, 9, none⟩ (.string ⟨#[]⟩)) = X2 at *
 intro hV hK2
 have I2 : Hid (MgI X2 (gx + 1) gx (fun v => #[.int .i64 z0, .int .i64 z1, .int .i64 z2, .int .i64 z3, .int .i64 z4, .int .i64 z5, .int .i64 z6, .bool yb, v, .string ⟨#[]⟩]) (.slice none 0 0) []) := ⟨hK2, Nat.lt_succ_self _, Owns.nil _ _ _ _⟩
 have R2 := Hid.mkM (R1.out.on hV R1.out.lt)
 have D2 : Hid (Below w.heap.size w X2) := D1.out.trans (hV.mono D1.out.size)
 have e8 := (HS1.out _ hV).2.2.2.2.2.2.2.2
 have HWX : Hid (w.heap.size < gx) := Nat.lt_of_lt_of_le R1.out.lt HGX.out
 clear hV hK2 HS1 R1 D1
 go_wp2_with fail
 clear e8
 go_loopw [5, 7] (fun v5 v7 wr => ∃ (j n : Nat) (ve : Value) (es : List Ent), j ≤ kn ∧ v7 = .int .i64 ((kn - j : Nat) : Int) ∧ v5 = .int .i64 (n : Int) ∧ RdL (EnRd s) n1 j es n ∧ n ≤ s.size ∧ Below w.heap.size w wr ∧ Blk wr w.heap.size #[.int .i64 0, .int .i64 0, .int .i64 0, .int .i64 0, .int .i64 0, .int .i64 0, .int .i64 0, .bool false, .slice none 0 0, .string ⟨#[]⟩] 31 ∧ MgI wr (gx + 1) gx (fun v => #[.int .i64 z0, .int .i64 z1, .int .i64 z2, .int .i64 z3, .int .i64 z4, .int .i64 z5, .int .i64 z6, .bool yb, v, .string ⟨#[]⟩]) ve es) (fun _ v _ => (intOf v).toNat)
 case atStart => exact ⟨0, n1, _, [], Nat.zero_le _, rfl, rfl, ⟨rfl, rfl⟩, HN1.out, D2.out, R2.out, I2.out⟩
 case round =>
  obtain ⟨j, n, ve, es, hj, rfl, rfl, hrl, hn, hd, hr, hi⟩ := hrel
  obtain ⟨Ae, me, ce, rfl⟩ := hi.own.shape
  have HRL := Hid.mkM hrl
  have HNS : Hid (n ≤ s.size) := hn
  have D3 := Hid.mkM hd
  have R3 := Hid.mkM hr
  have I3 := Hid.mkM hi
  clear hrl hn hd hr hi D2 R2 I2
  by_cases hlt : j < kn
  ·have q5 : (0 : Int) < ((kn - j : Nat) : Int) := by omega
   have HE : Hid (IntKind.i64.wrap (((kn - j : Nat) : Int) - 1) = ((kn - (j + 1) : Nat) : Int)) := by unfold Hid; rw [IntKind.wrap_i64]; omega
   have qk : ((kn - j : Nat) : Int) ≤ 4 := by omega
   have HLT : Hid (j < kn) := hlt
   generalize hre : kn - j = rest at *
   have HRE : Hid (kn - j = rest) := hre
   clear hre
   go_wp2_with fail
   refine (specVars s n 1 wr HS.out (by have := HNS.out; have := HS.out; omega) (by omega)).mono ?_
   rintro e X4 ⟨hR, hb⟩
   have D4 : Hid (Below w.heap.size w X4) := D3.out.trans (hb.mono D3.out.size)
   have R4 := Hid.mkM (R3.out.on hb R3.out.lt)
   have I4 := Hid.mkM (I3.out.on hb)
   clear hb D3 R3 I3
   rcases hR with ⟨l, m2, u, hR, rfl, hN⟩ | ⟨hno, u, rfl⟩
   rotate_left
   ·have HN : Hid (∀ x, ¬ MgRd s x) := noEnts HR1.out rfl (RdL.no (EnRd.onep s) HRL.out HLT.out (fun y m hy => by obtain ⟨b, h1, _⟩ := hy; exact hno _ _ h1))
    clear hno
    obtain ⟨⟨r0, f0⟩, ⟨r1, f1⟩, ⟨r2, f2⟩, ⟨r3, f3⟩, ⟨r4, f4⟩, ⟨r5, f5⟩, ⟨r6, f6⟩, ⟨r7, f7⟩, ⟨r8, f8⟩, ⟨r9, f9⟩, y0, y1, y2, y3, y4, y5, y6, y7, y8, y9⟩ := resC10 (x0 := .int .i64 0) (x1 := .int .i64 0) (x2 := .int .i64 0) (x3 := .int .i64 0) (x4 := .int .i64 0) (x5 := .int .i64 0) (x6 := .int .i64 0) (x7 := .bool false) (x8 := .slice none 0 0) (x9 := .string ⟨#[]⟩) R4.out
    have BE := Hid.mkM (belowC10 D4.out (Nat.le_refl _) (.int .i64 0) (.int .i64 0) (.int .i64 0) (.int .i64 0) (.int .i64 0) (.int .i64 0) (.int .i64 0) (.bool false) (.slice none 0 0) (.string ⟨#[]⟩))
    go_wp2_with fail
    exact bodyPost_ret (v := .tuple #[.agg #[.int .i64 0, .int .i64 0, .int .i64 0, .int .i64 0, .int .i64 0, .int .i64 0, .int .i64 0, .bool false, .slice none 0 0, .string ⟨#[]⟩], .bool false]) (by simp [results, go_sem, y0, y1, y2, y3, y4, y5, y6, y7, y8, y9]) rfl ⟨⟨_, _, _, .inr ⟨HN.out, rfl, rfl⟩, rfl, MgO.zero _ _⟩, BE.out⟩
   obtain ⟨c0, rfl⟩ := one_of hR.length
   have hns := hR.inS
   have HC := Hid.mkM hR
   obtain ⟨gc, capc, rfl, hglt⟩ : ∃ g cap, u = .slice (some ⟨g, 0, none⟩) 1 cap ∧ g < X4.heap.size := by
    rcases hN.form with ⟨_, h⟩ | ⟨g, cap, h, _, _, h1, h2⟩
    ·cases h
    ·exact ⟨g, cap, h, h2⟩
   have EE : Hid (X4.cell? ⟨gc, 0, none⟩ = some (.int .i64 c0) ∧ gc < X4.heap.size) := ⟨hN.cell 0 (by simp), hglt⟩
   have q6 : ¬ (m2 : Int) < 0 := by omega
   have HM2 : Hid (m2 ≤ s.size) := hns.2
   clear hR hN hns hglt
   go_wp2_with fail
   refine (specPieceAt s m2 X4 HS.out (by have := HM2.out; have := HS.out; omega)).mono ?_
   rintro e X5 ⟨hR, hb⟩
   have D5 : Hid (Below w.heap.size w X5) := D4.out.trans (hb.mono D4.out.size)
   have R5 := Hid.mkM (R4.out.on hb R4.out.lt)
   have I5 := Hid.mkM (I4.out.on hb)
   have E5 : Hid (X5.cell? ⟨gc, 0, none⟩ = some (.int .i64 c0)) := (hb.cell (p := ⟨_, _, none⟩) EE.out.2).trans EE.out.1
   clear hb D4 R4 I4 EE
   rcases hR with ⟨tt, m3, hP, rfl⟩ | ⟨hno, rfl⟩
   rotate_left
   ·have HN : Hid (∀ x, ¬ MgRd s x) := noEnts HR1.out rfl (RdL.no (EnRd.onep s) HRL.out HLT.out (fun y m hy => by obtain ⟨b, h1, h2⟩ := hy; obtain ⟨_, rfl⟩ := h1.one HC.out; exact hno _ _ h2))
    clear hno
    obtain ⟨⟨r0, f0⟩, ⟨r1, f1⟩, ⟨r2, f2⟩, ⟨r3, f3⟩, ⟨r4, f4⟩, ⟨r5, f5⟩, ⟨r6, f6⟩, ⟨r7, f7⟩, ⟨r8, f8⟩, ⟨r9, f9⟩, y0, y1, y2, y3, y4, y5, y6, y7, y8, y9⟩ := resC10 (x0 := .int .i64 0) (x1 := .int .i64 0) (x2 := .int .i64 0) (x3 := .int .i64 0) (x4 := .int .i64 0) (x5 := .int .i64 0) (x6 := .int .i64 0) (x7 := .bool false) (x8 := .slice none 0 0) (x9 := .string ⟨#[]⟩) R5.out
    have BE := Hid.mkM (belowC10 D5.out (Nat.le_refl _) (.int .i64 0) (.int .i64 0) (.int .i64 0) (.int .i64 0) (.int .i64 0) (.int .i64 0) (.int .i64 0) (.bool false) (.slice none 0 0) (.string ⟨#[]⟩))
    go_wp2_with fail
    exact bodyPost_ret (v := .tuple #[.agg #[.int .i64 0, .int .i64 0, .int .i64 0, .int .i64 0, .int .i64 0, .int .i64 0, .int .i64 0, .bool false, .slice none 0 0, .string ⟨#[]⟩], .bool false]) (by simp [results, go_sem, y0, y1, y2, y3, y4, y5, y6, y7, y8, y9]) rfl ⟨⟨_, _, _, .inr ⟨HN.out, rfl, rfl⟩, rfl, MgO.zero _ _⟩, BE.out⟩
   have q7 : ¬ (m3 : Int) < 0 := by omega
   have HM3 : Hid (m3 ≤ s.size) := hP.text.2.2
   have HY : Hid (EnRd s n ⟨c0, tt⟩ m3) := ⟨m2, HC.out, hP⟩
   have HLS : Hid ((entR es).length ≤ 2097152) := by unfold Hid; rw [entR_length, HRL.out.length]; have := HLT.out; have := H4.out; omega
   clear hP
   go_wp2_with fail
   have S0 : Hid (X5.drew.cell? ⟨gx, 8, none⟩ = some (.slice Ae me ce) ∧ X5.drew.cell? ⟨gc, 0, none⟩ = some (.int .i64 c0)) := ⟨I5.out.box.cell 8 _ rfl, E5.out⟩
   have D6 : Hid (Below w.heap.size w X5.drew) := D5.out.drew
   have R6 : Hid (Blk X5.drew w.heap.size #[.int .i64 0, .int .i64 0, .int .i64 0, .int .i64 0, .int .i64 0, .int .i64 0, .int .i64 0, .bool false, .slice none 0 0, .string ⟨#[]⟩] 31) := R5.out
   have K6 : Hid (Blk X5.drew gx #[.int .i64 z0, .int .i64 z1, .int .i64 z2, .int .i64 z3, .int .i64 z4, .int .i64 z5, .int .i64 z6, .bool yb, .slice Ae me ce, .string ⟨#[]⟩] 31) := I5.out.box
   have O6 : Hid (Owns X5.drew (gx + 1) 75 2 (.slice Ae me ce) (entR es)) := I5.out.own.heap rfl
   have Z6 : Hid (gx + 1 ≤ X5.drew.heap.size) := I5.out.box.lt
   refine wp_region_until (fun w' => w'.cell? ⟨gx, 8, none⟩ = some (.slice Ae me ce) ∧ w'.cell? ⟨gc, 0, none⟩ = some (.int .i64 c0)) (fun i => i == 8 || i == 10) 11 (by rfl) (by kernel_rfl) ?_
   clear D5 R5 I5 E5
   generalize X5.drew = Y at *
   obtain ⟨nA, nm, nc, w5, r5, hO5, hb5, hk5, -⟩ := run_append_row (P := Tryz.prog) Y 29 29 75 (.agg #[.int .i64 0, .string ⟨#[]⟩]) 2 24 Tryz.underlying29 Tryz.infoEnt rfl (by omega) (gx + 1) (.slice Ae me ce) (entR es) O6.out [.int .i64 c0, .string tt] rfl (ent_cells _ _) HLS.out (by omega) Z6.out
   refine tF 0 S0.out ?_
   refine tF 1 S0.out ?_
   refine tF 2 S0.out ?_
   refine tF 3 S0.out ?_
   refine tF 4 S0.out ?_
   refine tF 5 S0.out ?_
   refine pF 6 ?_
   refine uNe 7 (fun K hK => ?_)
   go_simp
   refine hK.out _ _ (fun _ h => ⟨cell_alloc_keepM h.1 _, cell_alloc_keepM h.2 _⟩) ?_
   clear hK K
   try simp only [Act.put, zQ1, zQ2, zQ3]
   refine uNe 8 (fun K hK => ?_)
   refine step_append_run (by rfl) (.tmp 78) (.tmp 84) 29 (by rfl) _ _ _ _ (by rfl) (by rfl) r5 ?_
   refine hK.out _ _ (fun h => by cases h) ?_
   clear hK K
   try simp only [Act.put, zQ1, zQ2, zQ3]
   refine pF 9 ?_
   have kb : Blk w5 gx #[.int .i64 z0, .int .i64 z1, .int .i64 z2, .int .i64 z3, .int .i64 z4, .int .i64 z5, .int .i64 z6, .bool yb, .slice Ae me ce, .string ⟨#[]⟩] 31 := (hk5 _ K6.out.lt (O6.out.below (Nat.lt_succ_self _))).trans K6.out
   have bk := kb.cell 8 _ rfl
   have fk := kb.free 8
   have I6 : Hid (MgI (w5.setCell ⟨gx, 8, none⟩ (.slice nA nm nc)) (gx + 1) gx (fun v => #[.int .i64 z0, .int .i64 z1, .int .i64 z2, .int .i64 z3, .int .i64 z4, .int .i64 z5, .int .i64 z6, .bool yb, v, .string ⟨#[]⟩]) (.slice nA nm nc) (es ++ [⟨c0, tt⟩])) := ⟨kb.set 8 _, Nat.lt_succ_self _, by rw [entR_append]; exact hO5.other (hO5.below (Nat.lt_succ_self _)) 8 _⟩
   have hbx : Below w.heap.size w w5 := D6.out.trans (hb5.mono (by have := HWX.out; omega))
   have D7 : Hid (Below w.heap.size w (w5.setCell ⟨gx, 8, none⟩ (.slice nA nm nc))) := hbx.setCell (p := ⟨_, _, none⟩) (Nat.le_of_lt HWX.out) _
   have rk : Blk w5 w.heap.size #[.int .i64 0, .int .i64 0, .int .i64 0, .int .i64 0, .int .i64 0, .int .i64 0, .int .i64 0, .bool false, .slice none 0 0, .string ⟨#[]⟩] 31 := (hk5 _ R6.out.lt (O6.out.below (by have := HWX.out; omega))).trans R6.out
   have R7 := Hid.mkM (rk.other (show w.heap.size ≠ gx by have := HWX.out; omega) 8 (.slice nA nm nc))
   refine uNe 10 (fun K hK => ?_)
   go_simp
   refine hK.out _ _ (fun h => by cases h) ?_
   clear hK K kb bk fk
   try simp only [Act.put, zQ1, zQ2, zQ3]
   refine until_done (by kernel_rfl) ?_ _
   have HRL2 := Hid.mkM (HRL.out.snocM HY.out)
   have HE' := HE.out
   clear hO5 hb5 hk5 r5 D6 R6 K6 O6 S0 hbx rk
   go_wp2_with fail
   go_roundw
   case rel => exact ⟨j + 1, m3, _, _, by have := HLT.out; omega, by first | rfl | rw [HE.out], rfl, HRL2.out, HM3.out, D7.out, R7.out, I6.out⟩
   case measure => have := HRE.out; have := HLT.out; simp [intOf]; omega
  ·obtain rfl : j = kn := by omega
   have q5 : ¬ (0 : Int) < ((j - j : Nat) : Int) := by omega
   generalize ((j - j : Nat) : Int) = zz at *
   have q9 : (n : Int) ≤ (s.size : Int) := by have := HNS.out; omega
   have k9 := I3.out.box.cell 9 _ rfl
   have f9 := I3.out.box.free 9
   have HX : Hid (MgP s ⟨z0, z1, z2, z3, z4, z5, z6, yb, es, lf s n⟩ yn n1 n) := by
    have hl := HRL.out.length
    refine ⟨?_, ?_, ?_, rfl, HYB.out⟩
    ·show RdF s 4 9 [z0, z1, z2, z3, z4, z5, z6, (yn : Int), (es.length : Int)] n1
     rw [hl]; exact HR1.out
    ·show es.length ≤ 4
     rw [hl]; exact H4.out
    ·show RdL (EnRd s) n1 es.length es n
     rw [hl]; exact HRL.out
   obtain ⟨hw1, hf1⟩ := HX.out.short HS.out
   have HAS := Hid.mkM HX.out.asked
   have KS := Hid.mkM (I3.out.box.set 9 (.string (lf s n)))
   have OS := Hid.mkM (I3.out.own.other (I3.out.own.below I3.out.lt) 9 (.string (lf s n)))
   have DS : Hid (Below w.heap.size w (wr.setCell ⟨gx, 9, none⟩ (.string (lf s n)))) := D3.out.setCell (p := ⟨_, _, none⟩) (Nat.le_of_lt HWX.out) _
   have RS := Hid.mkM (R3.out.other (show w.heap.size ≠ gx by have := HWX.out; omega) 9 (.string (lf s n)))
   have cM := fun wx b (h : MgO wx b (vMg ⟨z0, z1, z2, z3, z4, z5, z6, yb, es, lf s n⟩ (.slice Ae me ce)) ⟨z0, z1, z2, z3, z4, z5, z6, yb, es, lf s n⟩) => specShowMsg ⟨z0, z1, z2, z3, z4, z5, z6, yb, es, lf s n⟩ (vMg ⟨z0, z1, z2, z3, z4, z5, z6, yb, es, lf s n⟩ (.slice Ae me ce)) wx wx.heap.size h.lies hf1 hw1 (Nat.le_refl _)
   have HMO : Hid (∀ wx b, Owns wx b 75 2 (.slice Ae me ce) (entR es) → MgO wx b (vMg ⟨z0, z1, z2, z3, z4, z5, z6, yb, es, lf s n⟩ (.slice Ae me ce)) ⟨z0, z1, z2, z3, z4, z5, z6, yb, es, lf s n⟩) := fun wx b h => ⟨_, rfl, h⟩
   have HLF : Hid (s.extract n s.size = lf s n) := rfl
   unfold vMg at cM HMO
   simp only at cM HMO
   generalize msgT ⟨z0, z1, z2, z3, z4, z5, z6, yb, es, lf s n⟩ = mt at *
   have HMR : Hid (mt = s → MgN s ⟨z0, z1, z2, z3, z4, z5, z6, yb, es, lf s n⟩ true) := fun h => .inl ⟨HAS.out.1 h, rfl⟩
   generalize (⟨z0, z1, z2, z3, z4, z5, z6, yb, es, lf s n⟩ : Mg) = xx at *
   clear I3 D3 R3 hw1 hf1 HX
   go_upto_region 17 with fail
   try rw [HLF.out]
   have hKS : Blk (wr.setCell ⟨gx, 9, none⟩ (.string (lf s n))) gx #[.int .i64 z0, .int .i64 z1, .int .i64 z2, .int .i64 z3, .int .i64 z4, .int .i64 z5, .int .i64 z6, .bool yb, .slice Ae me ce, .string (lf s n)] 31 := KS.out
   generalize lf s n = df at *
   clear k9 f9 KS
   generalize wr.setCell ⟨gx, 9, none⟩ (.string df) = Y at *
   have b0 := hKS.cell 0 _ rfl
   have b1 := hKS.cell 1 _ rfl
   have b2 := hKS.cell 2 _ rfl
   have b3 := hKS.cell 3 _ rfl
   have b4 := hKS.cell 4 _ rfl
   have b5 := hKS.cell 5 _ rfl
   have b6 := hKS.cell 6 _ rfl
   have b7 := hKS.cell 7 _ rfl
   have b8 := hKS.cell 8 _ rfl
   have b9 := hKS.cell 9 _ rfl
   go_wp2_with fail
   refine (cM _ _ (HMO.out _ _ OS.out)).mono ?_
   rintro e Y2 ⟨rfl, hb⟩
   have K7 := Hid.mkM (hKS.on hb hKS.lt)
   have O7 := Hid.mkM (OS.out.on hb)
   have D7 : Hid (Below w.heap.size w Y2) := DS.out.trans (hb.mono DS.out.size)
   have R7 := Hid.mkM (RS.out.on hb RS.out.lt)
   clear hb cM hKS OS DS RS b0 b1 b2 b3 b4 b5 b6 b7 b8 b9
   by_cases hms : mt = s
   rotate_left
   ·have HN : Hid (∀ x, ¬ MgRd s x) := HAS.out.2 hms
    obtain ⟨t0, t1, t2⟩ := text_neqC hms
    clear hms
    obtain ⟨⟨r0, f0⟩, ⟨r1, f1⟩, ⟨r2, f2⟩, ⟨r3, f3⟩, ⟨r4, f4⟩, ⟨r5, f5⟩, ⟨r6, f6⟩, ⟨r7, f7⟩, ⟨r8, f8⟩, ⟨r9, f9⟩, y0, y1, y2, y3, y4, y5, y6, y7, y8, y9⟩ := resC10 (x0 := .int .i64 0) (x1 := .int .i64 0) (x2 := .int .i64 0) (x3 := .int .i64 0) (x4 := .int .i64 0) (x5 := .int .i64 0) (x6 := .int .i64 0) (x7 := .bool false) (x8 := .slice none 0 0) (x9 := .string ⟨#[]⟩) R7.out
    have BE := Hid.mkM (belowC10 D7.out (Nat.le_refl _) (.int .i64 0) (.int .i64 0) (.int .i64 0) (.int .i64 0) (.int .i64 0) (.int .i64 0) (.int .i64 0) (.bool false) (.slice none 0 0) (.string ⟨#[]⟩))
    go_wp2_with fail
    exact bodyPost_ret (v := .tuple #[.agg #[.int .i64 0, .int .i64 0, .int .i64 0, .int .i64 0, .int .i64 0, .int .i64 0, .int .i64 0, .bool false, .slice none 0 0, .string ⟨#[]⟩], .bool false]) (by simp [results, go_sem, y0, y1, y2, y3, y4, y5, y6, y7, y8, y9]) rfl ⟨⟨_, _, _, .inr ⟨HN.out, rfl, rfl⟩, rfl, MgO.zero _ _⟩, BE.out⟩
   have HMN := Hid.mkM (HMR.out hms)
   have t1 : (mt.toList == s.toList) = true := by rw [hms]; simp
   have t2 : (mt.toList != s.toList) = false := by rw [hms]; simp
   clear hms
   have b0 := K7.out.cell 0 _ rfl
   have b1 := K7.out.cell 1 _ rfl
   have b2 := K7.out.cell 2 _ rfl
   have b3 := K7.out.cell 3 _ rfl
   have b4 := K7.out.cell 4 _ rfl
   have b5 := K7.out.cell 5 _ rfl
   have b6 := K7.out.cell 6 _ rfl
   have b7 := K7.out.cell 7 _ rfl
   have b8 := K7.out.cell 8 _ rfl
   have b9 := K7.out.cell 9 _ rfl
   obtain ⟨⟨r0, f0⟩, ⟨r1, f1⟩, ⟨r2, f2⟩, ⟨r3, f3⟩, ⟨r4, f4⟩, ⟨r5, f5⟩, ⟨r6, f6⟩, ⟨r7, f7⟩, ⟨r8, f8⟩, ⟨r9, f9⟩, y0, y1, y2, y3, y4, y5, y6, y7, y8, y9⟩ := resC10 (x0 := .int .i64 z0) (x1 := .int .i64 z1) (x2 := .int .i64 z2) (x3 := .int .i64 z3) (x4 := .int .i64 z4) (x5 := .int .i64 z5) (x6 := .int .i64 z6) (x7 := .bool yb) (x8 := .slice Ae me ce) (x9 := .string df) R7.out
   have BE := Hid.mkM (belowC10 D7.out (Nat.le_refl _) (.int .i64 z0) (.int .i64 z1) (.int .i64 z2) (.int .i64 z3) (.int .i64 z4) (.int .i64 z5) (.int .i64 z6) (.bool yb) (.slice Ae me ce) (.string df))
   have OE := Hid.mkM (ownsC10 O7.out (show w.heap.size < gx + 1 by have := HWX.out; omega) (.int .i64 z0) (.int .i64 z1) (.int .i64 z2) (.int .i64 z3) (.int .i64 z4) (.int .i64 z5) (.int .i64 z6) (.bool yb) (.slice Ae me ce) (.string df))
   go_wp2_with fail
   exact bodyPost_ret (v := .tuple #[.agg #[.int .i64 z0, .int .i64 z1, .int .i64 z2, .int .i64 z3, .int .i64 z4, .int .i64 z5, .int .i64 z6, .bool yb, .slice Ae me ce, .string df], .bool true]) (by simp [results, go_sem, y0, y1, y2, y3, y4, y5, y6, y7, y8, y9]) rfl ⟨⟨_, _, _, HMN.out, rfl, (HMO.out _ _ OE.out).mono (by have := HWX.out; omega)⟩, BE.out⟩
end Go.Proofs.YtifmjdakefkbiaaGreatDoor
namespace Go.Proofs.YtifmjdakefkbiaaGreatDoor
open Go.ChangeShapes Go.WideShapes Go.ChangeAt Go.RowKit Go.PlainAid
set_option linter.unusedVariables false
end Go.Proofs.YtifmjdakefkbiaaGreatDoor
namespace Go.Proofs.YtifmjdakefkbiaaGreatDoor
open Go.ChangeShapes Go.WideShapes Go.ChangeAt Go.RowKit Go.PlainAid
set_option linter.unusedVariables false
end Go.Proofs.YtifmjdakefkbiaaGreatDoor
namespace Go.Proofs.YtifmjdakefkbiaaGreatDoor
open Go.ChangeShapes Go.WideShapes Go.ChangeAt Go.RowKit Go.PlainAid
set_option linter.unusedVariables false
end Go.Proofs.YtifmjdakefkbiaaGreatDoor
