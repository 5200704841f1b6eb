/-
  Contracts of a cursor's place and goTo, and of a writer's write.
-/
import Derived.Test.YthgiekeiljflaaaDoorFlAid
import Derived.Test.YthgiekeiljflaaaDoorUntil
import Derived.WalkKit
import Derived.ProofKit
import Derived.OpenShut
import Derived.Below
import Derived.WalkSmall
import Derived.BigQuiet
import Derived.Deep.QuietTactic
import Derived.Deep.RegionWith
import Derived.Handy
namespace Go.Proofs.YthgiekeiljflaaaDoor
open Go.ChangeShapes Go.WideShapes Go.ChangeAt Go.RowKit Go.PlainAid
set_option linter.unusedVariables false

set_option maxHeartbeats 1000000 in
theorem placeV (w : World) (g p : Nat) (hc : w.cell? ⟨g, 1, none⟩ = some (.int .i64 (p : Int))) : Calls Tryd.prog 25 #[.pointer (some ⟨g, 0, none⟩)] w fun e w' => e = .returned (.int .i64 (p : Int)) ∧ w = w' := by
  go_enter Tryd.func25, Tryd.ntmps25
  go_wp2
  go_ret
  exact ⟨rfl, rfl⟩
set_option maxHeartbeats 1000000 in
theorem goToV (t : ByteArray) (p a : Nat) (w : World) (g : Nat) (ty : TypeId) (hb : CurB w g t p ty) (hs : t.size ≤ 1048576) (ha : a ≤ 9007199254740992) : Calls Tryd.prog 49 #[.pointer (some ⟨g, 0, none⟩), .int .i64 (a : Int)] w fun e w' => (∃ u, e = .returned u) ∧ w' = w.setCell ⟨g, 1, none⟩ (.int .i64 ((min a t.size : Nat) : Int)) := by
  have c0 : w.cell? ⟨g, 0, none⟩ = some (.string t) := Blk.cell hb 0 _ rfl
  have c1 : w.cell? ⟨g, 1, none⟩ = some (.int .i64 (p : Int)) := Blk.cell hb 1 _ rfl
  have f1 := Blk.free hb 1
  have q0 : (t.size : Int) ≤ 1048576 := by omega
  have q1 : (a : Int) ≤ 9007199254740992 := by omega
  have hm : ((min a t.size : Nat) : Int) = min (a : Int) (t.size : Int) := by omega
  clear hb
  rw [hm]
  go_enter Tryd.func49, Tryd.ntmps49
  go_wp2_with fail
  exact bodyPost_end (v := .tuple #[]) (by simp [results, go_sem]) rfl ⟨⟨_, rfl⟩, rfl⟩
set_option maxHeartbeats 1000000 in
theorem writeV (t part : ByteArray) (w : World) (g p : Nat) (hb : CurB w g t p 52) (hs : t.size + part.size ≤ 1000000) : Calls Tryd.prog 23 #[.pointer (some ⟨g, 0, none⟩), .string part] w fun e w' => (∃ u, e = .returned u) ∧ CurB w' g (t ++ part) (t ++ part).size 52 ∧ KeptBut g w w' := by
  have HB : Hid (CurB w g t p 52) := hb
  have c0 : w.cell? ⟨g, 0, none⟩ = some (.string t) := Blk.cell hb 0 _ rfl
  have f0 := Blk.free hb 0
  have q0 : (t.size : Int) + (part.size : Int) ≤ 1000000 := by omega
  have HN : Hid ((t ++ part).size = t.size + part.size) := ByteArray.size_append
  clear hb hs
  have b1 := Blk.set HB.out 0 (.string (t ++ part))
  have B1 : Hid (CurB (w.setCell ⟨g, 0, none⟩ (.string (t ++ part))) g (t ++ part) p 52) := b1
  have K1 : Hid (KeptBut g w (w.setCell ⟨g, 0, none⟩ (.string (t ++ part)))) := (KeptBut.refl g w).set 0 _
  clear b1
  have q1 : ((t ++ part).size : Int) ≤ 1048576 := by have := HN.out; omega
  generalize htp : t ++ part = tp at *
  generalize hW : w.setCell ⟨g, 0, none⟩ (.string tp) = W1 at *
  have S0 : Hid (W1.drew.cell? ⟨g, 0, none⟩ = some (.string tp)) := Blk.cell B1.out 0 _ rfl
  have c1 := goToV tp p tp.size W1.drew g 52 B1.out (by omega) (by omega)
  have HM : Hid (min tp.size tp.size = tp.size) := Nat.min_self _
  rw [HM.out] at c1
  go_enter Tryd.func23, Tryd.ntmps23
  go_wp2_with fail
  refine wp_region_until (fun w' => w'.cell? ⟨g, 0, none⟩ = some (.string tp)) (fun _ => false) 10 (by rfl) (by kernel_rfl) ?_
  refine until_take 0 (v := ?_) (by rfl) (by kernel_rfl) (by exact fun _ _ _ h => h) (by rfl) ?_ S0.out ?_
  rotate_left
  · intro w hSw
    try dsimp only at hSw
    go_simp
    try with_reducible rfl
  try simp only [Act.put, List.setIfInBounds_toArray, List.set_cons_zero, List.set_cons_succ]
  refine until_take 1 (v := ?_) (by rfl) (by kernel_rfl) (by exact fun _ _ _ h => h) (by rfl) ?_ S0.out ?_
  rotate_left
  · intro w hSw
    try dsimp only at hSw
    go_simp
    try with_reducible rfl
  try simp only [Act.put, List.setIfInBounds_toArray, List.set_cons_zero, List.set_cons_succ]
  refine until_take 2 (v := ?_) (by rfl) (by kernel_rfl) (by exact fun _ _ _ h => h) (by rfl) ?_ S0.out ?_
  rotate_left
  · intro w hSw
    try dsimp only at hSw
    go_simp
    try with_reducible rfl
  try simp only [Act.put, List.setIfInBounds_toArray, List.set_cons_zero, List.set_cons_succ]
  refine until_take 3 (v := ?_) (by rfl) (by kernel_rfl) (by exact fun _ _ _ h => h) (by rfl) ?_ S0.out ?_
  rotate_left
  · intro w hSw
    try dsimp only at hSw
    go_simp
    try with_reducible rfl
  try simp only [Act.put, List.setIfInBounds_toArray, List.set_cons_zero, List.set_cons_succ]
  refine until_take 4 (v := ?_) (by rfl) (by kernel_rfl) (by exact fun _ _ _ h => h) (by rfl) ?_ S0.out ?_
  rotate_left
  · intro w hSw
    try dsimp only at hSw
    go_simp
    try with_reducible rfl
  try simp only [Act.put, List.setIfInBounds_toArray, List.set_cons_zero, List.set_cons_succ]
  refine until_take 5 (v := ?_) (by rfl) (by kernel_rfl) (by exact fun _ _ _ h => h) (by rfl) ?_ S0.out ?_
  rotate_left
  · intro w hSw
    try dsimp only at hSw
    go_simp
    try with_reducible rfl
  try simp only [Act.put, List.setIfInBounds_toArray, List.set_cons_zero, List.set_cons_succ]
  refine until_take 6 (v := ?_) (by rfl) (by kernel_rfl) (by exact fun _ _ _ h => h) (by rfl) ?_ S0.out ?_
  rotate_left
  · intro w hSw
    try dsimp only at hSw
    go_simp
    try with_reducible rfl
  try simp only [Act.put, List.setIfInBounds_toArray, List.set_cons_zero, List.set_cons_succ]
  refine until_take 7 (v := ?_) (by rfl) (by kernel_rfl) (by exact fun _ _ _ h => h) (by rfl) ?_ S0.out ?_
  rotate_left
  · intro w hSw
    try dsimp only at hSw
    go_simp
    try with_reducible rfl
  try simp only [Act.put, List.setIfInBounds_toArray, List.set_cons_zero, List.set_cons_succ]
  refine until_take 8 (v := ?_) (by rfl) (by kernel_rfl) (by exact fun _ _ _ h => h) (by rfl) ?_ S0.out ?_
  rotate_left
  · intro w hSw
    try dsimp only at hSw
    go_simp
    try with_reducible rfl
  try simp only [Act.put, List.setIfInBounds_toArray, List.set_cons_zero, List.set_cons_succ]
  refine until_one 9 (by rfl) (by kernel_rfl) (fun K hK => ?_)
  go_simp
  refine c1.mono ?_
  rintro e w2 ⟨⟨u, rfl⟩, rfl⟩
  have B2 : Hid (CurB (W1.drew.setCell ⟨g, 1, none⟩ (.int .i64 (tp.size : Int))) g tp tp.size 52) := Blk.set B1.out 1 _
  have K2 : Hid (KeptBut g w (W1.drew.setCell ⟨g, 1, none⟩ (.int .i64 (tp.size : Int)))) := K1.out.drew.set 1 _
  go_wp2_with fail
  refine hK.out _ _ (fun _ _ => Blk.cell B2.out 0 _ rfl) ?_
  clear hK K
  try simp only [Act.put, List.setIfInBounds_toArray, List.set_cons_zero, List.set_cons_succ]
  refine until_done (by kernel_rfl) ?_ _
  go_wp2_with fail
  exact bodyPost_end (v := .tuple #[]) (by simp [results, go_sem]) rfl ⟨⟨_, rfl⟩, B2.out, K2.out⟩
end Go.Proofs.YthgiekeiljflaaaDoor
