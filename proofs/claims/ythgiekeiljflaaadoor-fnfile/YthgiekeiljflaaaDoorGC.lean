/-
  Blocks that change alone, and rows of spots (no program in sight, no condition).
-/
import Derived.Test.YthgiekeiljflaaaDoorRows
import Derived.Test.YthgiekeiljflaaaDoorGB
import Derived.Test.YthgiekeiljflaaaDoorGA
import Derived.WalkKit
import Derived.ProofKit
import Derived.OpenShut
import Derived.Below
import Derived.WalkSmall
import Derived.BigQuiet
import Derived.Deep.QuietTactic
import Derived.Deep.RegionWith
import Derived.Handy
import Derived.Test.YthgiekeiljflaaaDoorUntil
namespace Go.Proofs.YthgiekeiljflaaaDoor
open Go.ChangeShapes Go.WideShapes Go.ChangeAt Go.RowKit Go.PlainAid
set_option linter.unusedVariables false

/-- All but one block is as it was. -/
def KeptBut (g : Nat) (w w' : World) : Prop := Below g w w' ∧ ∀ b, b ≠ g → b < w.heap.size → w'.heap[b]? = w.heap[b]?
theorem KeptBut.of {g : Nat} {w w' : World} (h : Below w.heap.size w w') (hg : g < w.heap.size) : KeptBut g w w' := ⟨h.mono (Nat.le_of_lt hg), fun b _ hb => h.block b hb⟩
theorem KeptBut.refl (g : Nat) (w : World) : KeptBut g w w := ⟨Below.refl _ _, fun _ _ _ => rfl⟩
theorem KeptBut.trans {g : Nat} {w w' w'' : World} (h : KeptBut g w w') (h' : KeptBut g w' w'') : KeptBut g w w'' := ⟨h.1.trans h'.1, fun b hb hl => by rw [h'.2 b hb (Nat.lt_of_lt_of_le hl h.1.size), h.2 b hb hl]⟩
theorem KeptBut.set {g : Nat} {w w' : World} (h : KeptBut g w w') (i : Nat) (x : Value) : KeptBut g w (w'.setCell ⟨g, i, none⟩ x) := ⟨h.1.setCell (Nat.le_refl _) _, fun b hb hl => by rw [Below.heap_setCell _ _ _ _ hb]; exact h.2 b hb hl⟩
theorem KeptBut.setNew {g k : Nat} {w w' : World} (h : KeptBut g w w') (hk : w.heap.size ≤ k) (hg : g ≤ k) (i : Nat) (x : Value) : KeptBut g w (w'.setCell ⟨k, i, none⟩ x) := ⟨h.1.setCell hg _, fun b hb hl => by rw [Below.heap_setCell _ _ _ _ (show b ≠ k by omega)]; exact h.2 b hb hl⟩
theorem KeptBut.drew {g : Nat} {w w' : World} (h : KeptBut g w w') : KeptBut g w w'.drew := ⟨h.1.drew, h.2⟩
theorem KeptBut.size {g : Nat} {w w' : World} (h : KeptBut g w w') : w.heap.size ≤ w'.heap.size := h.1.size
theorem KeptBut.owns {g : Nat} {w w' : World} {base : Nat} {e : TypeId} {sz : Nat} {v : Value} {rows : List (List Value)} (h : KeptBut g w w') (ho : Owns w base e sz v rows) (hne : v.ownBlock ≠ some g) : Owns w' base e sz v rows := ho.kept fun k hk hv => h.2 k (fun e => hne (by rw [hv, e])) hk
theorem KeptBut.blk {g b : Nat} {w w' : World} {cs : Array Value} {t : TypeId} (h : KeptBut g w w') (hb : Blk w b cs t) (hne : b ≠ g) : Blk w' b cs t := (h.2 b hne hb.lt).trans hb
theorem Owns.notBlk {w : World} {base : Nat} {e t : TypeId} {sz g : Nat} {cs : Array Value} {v : Value} {rows : List (List Value)} (h : Owns w base e sz v rows) (hb : Blk w g cs t) (hne : e ≠ t) : v.ownBlock ≠ some g := fun hv => by
  rcases h.2.2 with ⟨rfl, _⟩ | ⟨g1, c1, cur1, rfl, _, k1, _⟩
  · cases hv
  · cases hv
    rw [hb] at k1
    cases k1
    exact hne rfl
/-- The cells of a spot. -/
def spC (x : Spot) : List Value := [.string x.key, .int .i64 (x.at' : Int), .int .i64 (x.size : Int), .int .i64 (x.first : Int), .int .i64 (x.last : Int)]
def spR (l : List Spot) : List (List Value) := l.map spC
theorem spR_length (l : List Spot) : (spR l).length = l.length := by simp [spR]
theorem spR_append (l m : List Spot) : spR (l ++ m) = spR l ++ spR m := by simp [spR]
theorem sp_one (x : Spot) : ∀ u ∈ spC x, u.oneCell' = true := by
  intro u hu
  simp only [spC, List.mem_cons, List.not_mem_nil, or_false] at hu
  rcases hu with rfl | rfl | rfl | rfl | rfl <;> rfl
theorem sp_look {w : World} {B : Nat} {v : Value} {l : List Spot} (h : Lies w B 5 v (spR l)) : ∃ A cap, v = .slice A l.length cap ∧ ∀ j, j < l.length → ∃ g off, A = some ⟨g, off, none⟩ ∧ g < B ∧
    w.cell? ⟨g, off + j * 5, none⟩ = some (.string (l.getD j default).key) ∧ w.cell? ⟨g, off + j * 5 + 1, none⟩ = some (.int .i64 ((l.getD j default).at' : Int)) ∧ w.cell? ⟨g, off + j * 5 + 2, none⟩ = some (.int .i64 ((l.getD j default).size : Int)) ∧
    w.cell? ⟨g, off + j * 5 + 3, none⟩ = some (.int .i64 ((l.getD j default).first : Int)) ∧ w.cell? ⟨g, off + j * 5 + 4, none⟩ = some (.int .i64 ((l.getD j default).last : Int)) := by
  obtain ⟨A, cap, e, h⟩ := h.look
  refine ⟨A, cap, by rw [e]; simp [spR], fun j hj => ?_⟩
  rw [← getD_at l j hj]
  obtain ⟨g, off, e, hg, hc⟩ := h j (by simpa [spR] using hj)
  refine ⟨g, off, e, hg, ?_, ?_, ?_, ?_, ?_⟩
  · have := hc 0 _ (by omega) (by simp [spR, spC]; rfl); simpa [Nat.add_assoc] using this
  · have := hc 1 _ (by omega) (by simp [spR, spC]; rfl); simpa [Nat.add_assoc] using this
  · have := hc 2 _ (by omega) (by simp [spR, spC]; rfl); simpa [Nat.add_assoc] using this
  · have := hc 3 _ (by omega) (by simp [spR, spC]; rfl); simpa [Nat.add_assoc] using this
  · have := hc 4 _ (by omega) (by simp [spR, spC]; rfl); simpa [Nat.add_assoc] using this
/-- The value of one. -/
def vSp (x : Spot) : Value := .agg #[.string x.key, .int .i64 (x.at' : Int), .int .i64 (x.size : Int), .int .i64 (x.first : Int), .int .i64 (x.last : Int)]
theorem Tryd.infoSp : (Tryd.prog.info? 56).map (fun i => (i.zero, i.size, i.bytes)) = some (some (.agg #[.string ⟨#[]⟩, .int .i64 0, .int .i64 0, .int .i64 0, .int .i64 0]), 5, 48) := by kernel_rfl
/-- The numbers of a spot are small. -/
def SpFits (x : Spot) : Prop := x.key.size ≤ 1048576 ∧ x.at' ≤ 562949953421311 ∧ x.size ≤ 562949953421311 ∧ x.first ≤ 562949953421311 ∧ x.last ≤ 562949953421311
/-- What a writer or a reader holds. -/
def CurB (w : World) (g : Nat) (t : ByteArray) (p : Nat) (ty : TypeId) : Prop := Blk w g #[.string t, .int .i64 (p : Int)] ty
end Go.Proofs.YthgiekeiljflaaaDoor

/-
  Contracts of a cursor's place and goTo, and of a writer's write.
-/
namespace Go.Proofs.YthgiekeiljflaaaDoor
open Go.ChangeShapes Go.WideShapes Go.ChangeAt Go.RowKit Go.PlainAid
set_option linter.unusedVariables false

set_option maxHeartbeats 1000000 in
theorem placeV (w : World) (g p : Nat) (hc : w.cell? ⟨g, 1, none⟩ = some (.int .i64 (p : Int))) : Calls Tryd.prog 25 #[.pointer (some ⟨g, 0, none⟩)] w fun e w' => e = .returned (.int .i64 (p : Int)) ∧ w = w' := by
  go_enter Tryd.func25, Tryd.ntmps25
  go_wp2
  go_ret
  exact ⟨rfl, rfl⟩
set_option maxHeartbeats 1000000 in
theorem goToV (t : ByteArray) (p a : Nat) (w : World) (g : Nat) (ty : TypeId) (hb : CurB w g t p ty) (hs : t.size ≤ 1048576) (ha : a ≤ 9007199254740992) : Calls Tryd.prog 49 #[.pointer (some ⟨g, 0, none⟩), .int .i64 (a : Int)] w fun e w' => (∃ u, e = .returned u) ∧ w' = w.setCell ⟨g, 1, none⟩ (.int .i64 ((min a t.size : Nat) : Int)) := by
  have c0 : w.cell? ⟨g, 0, none⟩ = some (.string t) := Blk.cell hb 0 _ rfl
  have c1 : w.cell? ⟨g, 1, none⟩ = some (.int .i64 (p : Int)) := Blk.cell hb 1 _ rfl
  have f1 := Blk.free hb 1
  have q0 : (t.size : Int) ≤ 1048576 := by omega
  have q1 : (a : Int) ≤ 9007199254740992 := by omega
  have hm : ((min a t.size : Nat) : Int) = min (a : Int) (t.size : Int) := by omega
  clear hb
  rw [hm]
  go_enter Tryd.func49, Tryd.ntmps49
  go_wp2_with fail
  exact bodyPost_end (v := .tuple #[]) (by simp [results, go_sem]) rfl ⟨⟨_, rfl⟩, rfl⟩
set_option maxHeartbeats 1000000 in
theorem writeV (t part : ByteArray) (w : World) (g p : Nat) (hb : CurB w g t p 52) (hs : t.size + part.size ≤ 1000000) : Calls Tryd.prog 23 #[.pointer (some ⟨g, 0, none⟩), .string part] w fun e w' => (∃ u, e = .returned u) ∧ CurB w' g (t ++ part) (t ++ part).size 52 ∧ KeptBut g w w' := by
  have HB : Hid (CurB w g t p 52) := hb
  have c0 : w.cell? ⟨g, 0, none⟩ = some (.string t) := Blk.cell hb 0 _ rfl
  have f0 := Blk.free hb 0
  have q0 : (t.size : Int) + (part.size : Int) ≤ 1000000 := by omega
  have HN : Hid ((t ++ part).size = t.size + part.size) := ByteArray.size_append
  clear hb hs
  have b1 := Blk.set HB.out 0 (.string (t ++ part))
  have B1 : Hid (CurB (w.setCell ⟨g, 0, none⟩ (.string (t ++ part))) g (t ++ part) p 52) := b1
  have K1 : Hid (KeptBut g w (w.setCell ⟨g, 0, none⟩ (.string (t ++ part)))) := (KeptBut.refl g w).set 0 _
  clear b1
  have q1 : ((t ++ part).size : Int) ≤ 1048576 := by have := HN.out; omega
  generalize htp : t ++ part = tp at *
  generalize hW : w.setCell ⟨g, 0, none⟩ (.string tp) = W1 at *
  have S0 : Hid (W1.drew.cell? ⟨g, 0, none⟩ = some (.string tp)) := Blk.cell B1.out 0 _ rfl
  have c1 := goToV tp p tp.size W1.drew g 52 B1.out (by omega) (by omega)
  have HM : Hid (min tp.size tp.size = tp.size) := Nat.min_self _
  rw [HM.out] at c1
  go_enter Tryd.func23, Tryd.ntmps23
  go_wp2_with fail
  refine wp_region_until (fun w' => w'.cell? ⟨g, 0, none⟩ = some (.string tp)) (fun _ => false) 10 (by rfl) (by kernel_rfl) ?_
  refine until_take 0 (v := ?_) (by rfl) (by kernel_rfl) (by exact fun _ _ _ h => h) (by rfl) ?_ S0.out ?_
  rotate_left
  · intro w hSw
    try dsimp only at hSw
    go_simp
    try with_reducible rfl
  try simp only [Act.put, List.setIfInBounds_toArray, List.set_cons_zero, List.set_cons_succ]
  refine until_take 1 (v := ?_) (by rfl) (by kernel_rfl) (by exact fun _ _ _ h => h) (by rfl) ?_ S0.out ?_
  rotate_left
  · intro w hSw
    try dsimp only at hSw
    go_simp
    try with_reducible rfl
  try simp only [Act.put, List.setIfInBounds_toArray, List.set_cons_zero, List.set_cons_succ]
  refine until_take 2 (v := ?_) (by rfl) (by kernel_rfl) (by exact fun _ _ _ h => h) (by rfl) ?_ S0.out ?_
  rotate_left
  · intro w hSw
    try dsimp only at hSw
    go_simp
    try with_reducible rfl
  try simp only [Act.put, List.setIfInBounds_toArray, List.set_cons_zero, List.set_cons_succ]
  refine until_take 3 (v := ?_) (by rfl) (by kernel_rfl) (by exact fun _ _ _ h => h) (by rfl) ?_ S0.out ?_
  rotate_left
  · intro w hSw
    try dsimp only at hSw
    go_simp
    try with_reducible rfl
  try simp only [Act.put, List.setIfInBounds_toArray, List.set_cons_zero, List.set_cons_succ]
  refine until_take 4 (v := ?_) (by rfl) (by kernel_rfl) (by exact fun _ _ _ h => h) (by rfl) ?_ S0.out ?_
  rotate_left
  · intro w hSw
    try dsimp only at hSw
    go_simp
    try with_reducible rfl
  try simp only [Act.put, List.setIfInBounds_toArray, List.set_cons_zero, List.set_cons_succ]
  refine until_take 5 (v := ?_) (by rfl) (by kernel_rfl) (by exact fun _ _ _ h => h) (by rfl) ?_ S0.out ?_
  rotate_left
  · intro w hSw
    try dsimp only at hSw
    go_simp
    try with_reducible rfl
  try simp only [Act.put, List.setIfInBounds_toArray, List.set_cons_zero, List.set_cons_succ]
  refine until_take 6 (v := ?_) (by rfl) (by kernel_rfl) (by exact fun _ _ _ h => h) (by rfl) ?_ S0.out ?_
  rotate_left
  · intro w hSw
    try dsimp only at hSw
    go_simp
    try with_reducible rfl
  try simp only [Act.put, List.setIfInBounds_toArray, List.set_cons_zero, List.set_cons_succ]
  refine until_take 7 (v := ?_) (by rfl) (by kernel_rfl) (by exact fun _ _ _ h => h) (by rfl) ?_ S0.out ?_
  rotate_left
  · intro w hSw
    try dsimp only at hSw
    go_simp
    try with_reducible rfl
  try simp only [Act.put, List.setIfInBounds_toArray, List.set_cons_zero, List.set_cons_succ]
  refine until_take 8 (v := ?_) (by rfl) (by kernel_rfl) (by exact fun _ _ _ h => h) (by rfl) ?_ S0.out ?_
  rotate_left
  · intro w hSw
    try dsimp only at hSw
    go_simp
    try with_reducible rfl
  try simp only [Act.put, List.setIfInBounds_toArray, List.set_cons_zero, List.set_cons_succ]
  refine until_one 9 (by rfl) (by kernel_rfl) (fun K hK => ?_)
  go_simp
  refine c1.mono ?_
  rintro e w2 ⟨⟨u, rfl⟩, rfl⟩
  have B2 : Hid (CurB (W1.drew.setCell ⟨g, 1, none⟩ (.int .i64 (tp.size : Int))) g tp tp.size 52) := Blk.set B1.out 1 _
  have K2 : Hid (KeptBut g w (W1.drew.setCell ⟨g, 1, none⟩ (.int .i64 (tp.size : Int)))) := K1.out.drew.set 1 _
  go_wp2_with fail
  refine hK.out _ _ (fun _ _ => Blk.cell B2.out 0 _ rfl) ?_
  clear hK K
  try simp only [Act.put, List.setIfInBounds_toArray, List.set_cons_zero, List.set_cons_succ]
  refine until_done (by kernel_rfl) ?_ _
  go_wp2_with fail
  exact bodyPost_end (v := .tuple #[]) (by simp [results, go_sem]) rfl ⟨⟨_, rfl⟩, B2.out, K2.out⟩
end Go.Proofs.YthgiekeiljflaaaDoor

/-
  Contracts of a reader's takeVar and take.
-/
namespace Go.Proofs.YthgiekeiljflaaaDoor
open Go.ChangeShapes Go.WideShapes Go.ChangeAt Go.RowKit Go.PlainAid
set_option linter.unusedVariables false

set_option maxHeartbeats 2000000 in
theorem takeVarV (s : ByteArray) (p g : Nat) (w : World) (hb : CurB w g s p 91) (hs : s.size ≤ 1048576) (hp : p ≤ s.size) : Calls Tryd.prog 72 #[.pointer (some ⟨g, 0, none⟩)] w fun e w' => e = .returned (.int .i64 (tkN s p : Int)) ∧ CurB w' g s (tkP s p) 91 ∧ KeptBut g w w' := by
  have HB : Hid (CurB w g s p 91) := hb
  have S0 : Hid (w.drew.cell? ⟨g, 0, none⟩ = some (.string s) ∧ w.drew.cell? ⟨g, 1, none⟩ = some (.int .i64 (p : Int))) := ⟨Blk.cell hb 0 _ rfl, Blk.cell hb 1 _ rfl⟩
  have S1 : Hid (w.drew.drew.cell? ⟨g, 0, none⟩ = some (.string s) ∧ w.drew.drew.cell? ⟨g, 1, none⟩ = some (.int .i64 (p : Int))) := S0.out
  have HS : Hid (s.size ≤ 1048576) := hs
  have q0 : (s.size : Int) ≤ 1048576 := by omega
  have q1 : (p : Int) ≤ (s.size : Int) := by omega
  have hk := rvK_le (rest s p)
  rw [rest_size] at hk
  have HK : Hid (tkP s p = p + rvK (rest s p) ∧ tkN s p = rvN (rest s p) ∧ tkP s p ≤ s.size) := ⟨rfl, rfl, tkP_le s p hp⟩
  have c1 : Calls Tryd.prog 74 #[.string (s.extract p s.size)] w.drew fun e w' => e = .returned (.tuple #[.int .i64 (rvN (rest s p) : Int), .int .i64 (rvK (rest s p) : Int)]) ∧ w.drew = w' := by
    refine (impl_readVar (s.extract p s.size) w.drew (by rw [ByteArray.size_extract]; omega)).mono ?_
    rintro e w' ⟨h, rfl⟩
    obtain ⟨n, k, h1, rfl⟩ := h.rd
    obtain ⟨rfl, rfl⟩ := rv_is h1
    exact ⟨rfl, rfl⟩
  clear hb hs hp
  generalize rvN (rest s p) = nn at *
  generalize rvK (rest s p) = kk at *
  have q2 : (p : Int) + (kk : Int) ≤ (s.size : Int) := by omega
  have HM : Hid (min (p + kk) s.size = p + kk) := by unfold Hid; omega
  have e8 : IntKind.i64.wrap ((p : Int) + (kk : Int)) = (p : Int) + (kk : Int) := by rw [IntKind.wrap_i64]; omega
  have cg := goToV s p (p + kk) w.drew.drew g 91 HB.out HS.out (by have := HS.out; omega)
  rw [HM.out] at cg
  rw [Int.natCast_add] at cg
  go_enter Tryd.func72, Tryd.ntmps72
  go_wp2_with fail
  refine wp_region_until (fun w' => w'.cell? ⟨g, 0, none⟩ = some (.string s) ∧ w'.cell? ⟨g, 1, none⟩ = some (.int .i64 (p : Int))) (fun _ => false) 16 (by rfl) (by kernel_rfl) ?_
  refine until_take 0 (v := ?_) (by rfl) (by kernel_rfl) (by exact fun _ _ _ h => h) (by rfl) ?_ S0.out ?_
  rotate_left
  · intro w hSw
    try dsimp only at hSw
    go_simp
    try with_reducible rfl
  try simp only [Act.put, List.setIfInBounds_toArray, List.set_cons_zero, List.set_cons_succ]
  refine until_take 1 (v := ?_) (by rfl) (by kernel_rfl) (by exact fun _ _ _ h => h) (by rfl) ?_ S0.out ?_
  rotate_left
  · intro w hSw
    try dsimp only at hSw
    go_simp
    try with_reducible rfl
  try simp only [Act.put, List.setIfInBounds_toArray, List.set_cons_zero, List.set_cons_succ]
  refine until_take 2 (v := ?_) (by rfl) (by kernel_rfl) (by exact fun _ _ _ h => h) (by rfl) ?_ S0.out ?_
  rotate_left
  · intro w hSw
    try dsimp only at hSw
    go_simp
    try with_reducible rfl
  try simp only [Act.put, List.setIfInBounds_toArray, List.set_cons_zero, List.set_cons_succ]
  refine until_take 3 (v := ?_) (by rfl) (by kernel_rfl) (by exact fun _ _ _ h => h) (by rfl) ?_ S0.out ?_
  rotate_left
  · intro w hSw
    try dsimp only at hSw
    go_simp
    try with_reducible rfl
  try simp only [Act.put, List.setIfInBounds_toArray, List.set_cons_zero, List.set_cons_succ]
  refine until_take 4 (v := ?_) (by rfl) (by kernel_rfl) (by exact fun _ _ _ h => h) (by rfl) ?_ S0.out ?_
  rotate_left
  · intro w hSw
    try dsimp only at hSw
    go_simp
    try with_reducible rfl
  try simp only [Act.put, List.setIfInBounds_toArray, List.set_cons_zero, List.set_cons_succ]
  refine until_take 5 (v := ?_) (by rfl) (by kernel_rfl) (by exact fun _ _ _ h => h) (by rfl) ?_ S0.out ?_
  rotate_left
  · intro w hSw
    try dsimp only at hSw
    go_simp
    try with_reducible rfl
  try simp only [Act.put, List.setIfInBounds_toArray, List.set_cons_zero, List.set_cons_succ]
  refine until_take 6 (v := ?_) (by rfl) (by kernel_rfl) (by exact fun _ _ _ h => h) (by rfl) ?_ S0.out ?_
  rotate_left
  · intro w hSw
    try dsimp only at hSw
    go_simp
    try with_reducible rfl
  try simp only [Act.put, List.setIfInBounds_toArray, List.set_cons_zero, List.set_cons_succ]
  refine until_take 7 (v := ?_) (by rfl) (by kernel_rfl) (by exact fun _ _ _ h => h) (by rfl) ?_ S0.out ?_
  rotate_left
  · intro w hSw
    try dsimp only at hSw
    go_simp
    try with_reducible rfl
  try simp only [Act.put, List.setIfInBounds_toArray, List.set_cons_zero, List.set_cons_succ]
  refine until_one 8 (by rfl) (by kernel_rfl) (fun K hK => ?_)
  go_simp
  refine (placeV _ g p S0.out.2).mono ?_
  rintro e w' ⟨rfl, rfl⟩
  go_wp2_with fail
  refine hK.out _ _ (fun _ h => h) ?_
  clear hK K
  try simp only [Act.put, List.setIfInBounds_toArray, List.set_cons_zero, List.set_cons_succ]
  refine until_pure 9 (v := ?_) (by rfl) (by kernel_rfl) (by exact fun _ _ _ h => h) (by rfl) ?_ ?_
  rotate_left
  · intro w
    go_simp
    try with_reducible rfl
  try simp only [Act.put, List.setIfInBounds_toArray, List.set_cons_zero, List.set_cons_succ]
  refine until_one 10 (by rfl) (by kernel_rfl) (fun K hK => ?_)
  go_simp
  refine c1.mono ?_
  rintro e w' ⟨rfl, rfl⟩
  go_wp2_with fail
  refine hK.out _ _ (fun _ h => h) ?_
  clear hK K
  try simp only [Act.put, List.setIfInBounds_toArray, List.set_cons_zero, List.set_cons_succ]
  refine until_pure 11 (v := ?_) (by rfl) (by kernel_rfl) (by exact fun _ _ _ h => h) (by rfl) ?_ ?_
  rotate_left
  · intro w
    go_simp
    try with_reducible rfl
  try simp only [Act.put, List.setIfInBounds_toArray, List.set_cons_zero, List.set_cons_succ]
  refine until_pure 12 (v := ?_) (by rfl) (by kernel_rfl) (by exact fun _ _ _ h => h) (by rfl) ?_ ?_
  rotate_left
  · intro w
    go_simp
    try with_reducible rfl
  try simp only [Act.put, List.setIfInBounds_toArray, List.set_cons_zero, List.set_cons_succ]
  refine until_pure 13 (v := ?_) (by rfl) (by kernel_rfl) (by exact fun _ _ _ h => h) (by rfl) ?_ ?_
  rotate_left
  · intro w
    go_simp
    try with_reducible rfl
  try simp only [Act.put, List.setIfInBounds_toArray, List.set_cons_zero, List.set_cons_succ]
  refine until_pure 14 (v := ?_) (by rfl) (by kernel_rfl) (by exact fun _ _ _ h => h) (by rfl) ?_ ?_
  rotate_left
  · intro w
    go_simp
    try with_reducible rfl
  try simp only [Act.put, List.setIfInBounds_toArray, List.set_cons_zero, List.set_cons_succ]
  refine until_pure 15 (v := ?_) (by rfl) (by kernel_rfl) (by exact fun _ _ _ h => h) (by rfl) ?_ ?_
  rotate_left
  · intro w
    go_simp
    try with_reducible rfl
  try simp only [Act.put, List.setIfInBounds_toArray, List.set_cons_zero, List.set_cons_succ]
  refine until_done (by kernel_rfl) ?_ _
  go_wp2_with fail
  refine wp_region_until (fun w' => w'.cell? ⟨g, 0, none⟩ = some (.string s) ∧ w'.cell? ⟨g, 1, none⟩ = some (.int .i64 (p : Int))) (fun i => i == 9) 10 (by rfl) (by kernel_rfl) ?_
  refine until_take 0 (v := ?_) (by rfl) (by kernel_rfl) (by exact fun _ _ _ h => h) (by rfl) ?_ S0.out ?_
  rotate_left
  · intro w hSw
    try dsimp only at hSw
    go_simp
    try with_reducible rfl
  try simp only [Act.put, List.setIfInBounds_toArray, List.set_cons_zero, List.set_cons_succ]
  refine until_take 1 (v := ?_) (by rfl) (by kernel_rfl) (by exact fun _ _ _ h => h) (by rfl) ?_ S0.out ?_
  rotate_left
  · intro w hSw
    try dsimp only at hSw
    go_simp
    try with_reducible rfl
  try simp only [Act.put, List.setIfInBounds_toArray, List.set_cons_zero, List.set_cons_succ]
  refine until_take 2 (v := ?_) (by rfl) (by kernel_rfl) (by exact fun _ _ _ h => h) (by rfl) ?_ S0.out ?_
  rotate_left
  · intro w hSw
    try dsimp only at hSw
    go_simp
    try with_reducible rfl
  try simp only [Act.put, List.setIfInBounds_toArray, List.set_cons_zero, List.set_cons_succ]
  refine until_take 3 (v := ?_) (by rfl) (by kernel_rfl) (by exact fun _ _ _ h => h) (by rfl) ?_ S0.out ?_
  rotate_left
  · intro w hSw
    try dsimp only at hSw
    go_simp
    try with_reducible rfl
  try simp only [Act.put, List.setIfInBounds_toArray, List.set_cons_zero, List.set_cons_succ]
  refine until_take 4 (v := ?_) (by rfl) (by kernel_rfl) (by exact fun _ _ _ h => h) (by rfl) ?_ S0.out ?_
  rotate_left
  · intro w hSw
    try dsimp only at hSw
    go_simp
    try with_reducible rfl
  try simp only [Act.put, List.setIfInBounds_toArray, List.set_cons_zero, List.set_cons_succ]
  refine until_take 5 (v := ?_) (by rfl) (by kernel_rfl) (by exact fun _ _ _ h => h) (by rfl) ?_ S0.out ?_
  rotate_left
  · intro w hSw
    try dsimp only at hSw
    go_simp
    try with_reducible rfl
  try simp only [Act.put, List.setIfInBounds_toArray, List.set_cons_zero, List.set_cons_succ]
  refine until_take 7 (v := ?_) (by rfl) (by kernel_rfl) (by exact fun _ _ _ h => h) (by rfl) ?_ S0.out ?_
  rotate_left
  · intro w hSw
    try dsimp only at hSw
    go_simp
    try with_reducible rfl
  try simp only [Act.put, List.setIfInBounds_toArray, List.set_cons_zero, List.set_cons_succ]
  refine until_one 6 (by rfl) (by kernel_rfl) (fun K hK => ?_)
  go_simp
  refine (placeV w.drew.drew g p S1.out.2).mono ?_
  rintro e w' ⟨rfl, rfl⟩
  go_wp2_with fail
  refine hK.out _ _ (fun _ h => h) ?_
  clear hK K
  try simp only [Act.put, List.setIfInBounds_toArray, List.set_cons_zero, List.set_cons_succ]
  refine until_pure 8 (v := ?_) (by rfl) (by kernel_rfl) (by exact fun _ _ _ h => h) (by rfl) ?_ ?_
  rotate_left
  · intro w
    go_simp
    try with_reducible rfl
  try simp only [Act.put, List.setIfInBounds_toArray, List.set_cons_zero, List.set_cons_succ]
  refine until_one 9 (by rfl) (by kernel_rfl) (fun K hK => ?_)
  go_simp
  refine cg.mono ?_
  rintro e w2 ⟨⟨u, rfl⟩, rfl⟩
  have B2 : Hid (CurB (w.drew.drew.setCell ⟨g, 1, none⟩ (.int .i64 ((p : Int) + (kk : Int)))) g s (tkP s p) 91) := by
    unfold Hid CurB
    rw [HK.out.1, Int.natCast_add]
    exact Blk.set HB.out 1 _
  have K2 : Hid (KeptBut g w (w.drew.drew.setCell ⟨g, 1, none⟩ (.int .i64 ((p : Int) + (kk : Int))))) := (KeptBut.refl g w).drew.drew.set 1 _
  go_wp2_with fail
  refine hK.out _ _ (fun hx _ => absurd hx (by decide)) ?_
  clear hK K
  try simp only [Act.put, List.setIfInBounds_toArray, List.set_cons_zero, List.set_cons_succ]
  refine until_done (by kernel_rfl) ?_ _
  go_wp2_with fail
  go_ret
  exact ⟨by rw [HK.out.2.1]; rfl, B2.out, K2.out⟩

set_option maxHeartbeats 2000000 in
theorem takeV (s : ByteArray) (p many g : Nat) (w : World) (hb : CurB w g s p 91) (hs : s.size ≤ 1048576) (hp : p ≤ s.size) (hm : many ≤ 562949953421311) : Calls Tryd.prog 58 #[.pointer (some ⟨g, 0, none⟩), .int .i64 (many : Int)] w fun e w' => e = .returned (.string (s.extract p (tk s p many))) ∧ CurB w' g s (tk s p many) 91 ∧ KeptBut g w w' := by
  have HB : Hid (CurB w g s p 91) := hb
  have m0 : w.cell? ⟨g, 1, none⟩ = some (.int .i64 (p : Int)) := Blk.cell hb 1 _ rfl
  have q0 : (s.size : Int) ≤ 1048576 := by omega
  have q1 : (p : Int) ≤ (s.size : Int) := by omega
  have q2 : (many : Int) ≤ 562949953421311 := by omega
  have HT : Hid (min (p + many) s.size = tk s p many) := rfl
  have htk : tk s p many ≤ s.size ∧ p ≤ tk s p many := by unfold tk; omega
  have cg := goToV s p (p + many) w g 91 hb hs (by omega)
  rw [HT.out, Int.natCast_add] at cg
  clear hb hs hp hm
  generalize hq : tk s p many = q at *
  have q3 : (q : Int) ≤ (s.size : Int) := by omega
  have q4 : (p : Int) ≤ (q : Int) := by omega
  have e5 : ((q : Int)).toNat = q := by omega
  have B2 : Hid (CurB (w.setCell ⟨g, 1, none⟩ (.int .i64 (q : Int))).drew g s q 91) := Blk.set HB.out 1 _
  have K2 : Hid (KeptBut g w (w.setCell ⟨g, 1, none⟩ (.int .i64 (q : Int))).drew) := ((KeptBut.refl g w).set 1 _).drew
  have S0 : Hid ((w.setCell ⟨g, 1, none⟩ (.int .i64 (q : Int))).drew.cell? ⟨g, 0, none⟩ = some (.string s) ∧ (w.setCell ⟨g, 1, none⟩ (.int .i64 (q : Int))).drew.cell? ⟨g, 1, none⟩ = some (.int .i64 (q : Int))) := ⟨Blk.cell B2.out 0 _ rfl, Blk.cell B2.out 1 _ rfl⟩
  clear hq HT htk
  go_enter Tryd.func58, Tryd.ntmps58
  go_wp2_with fail
  refine (placeV w g p m0).mono ?_
  rintro e w' ⟨rfl, rfl⟩
  go_wp2_with fail
  refine cg.mono ?_
  rintro e w2 ⟨⟨u, rfl⟩, rfl⟩
  go_wp2_with fail
  refine wp_region_until (fun w' => w'.cell? ⟨g, 0, none⟩ = some (.string s) ∧ w'.cell? ⟨g, 1, none⟩ = some (.int .i64 (q : Int))) (fun _ => false) 12 (by rfl) (by kernel_rfl) ?_
  refine until_take 0 (v := ?_) (by rfl) (by kernel_rfl) (by exact fun _ _ _ h => h) (by rfl) ?_ S0.out ?_
  rotate_left
  · intro w hSw
    try dsimp only at hSw
    go_simp
    try with_reducible rfl
  try simp only [Act.put, List.setIfInBounds_toArray, List.set_cons_zero, List.set_cons_succ]
  refine until_take 1 (v := ?_) (by rfl) (by kernel_rfl) (by exact fun _ _ _ h => h) (by rfl) ?_ S0.out ?_
  rotate_left
  · intro w hSw
    try dsimp only at hSw
    go_simp
    try with_reducible rfl
  try simp only [Act.put, List.setIfInBounds_toArray, List.set_cons_zero, List.set_cons_succ]
  refine until_take 2 (v := ?_) (by rfl) (by kernel_rfl) (by exact fun _ _ _ h => h) (by rfl) ?_ S0.out ?_
  rotate_left
  · intro w hSw
    try dsimp only at hSw
    go_simp
    try with_reducible rfl
  try simp only [Act.put, List.setIfInBounds_toArray, List.set_cons_zero, List.set_cons_succ]
  refine until_take 3 (v := ?_) (by rfl) (by kernel_rfl) (by exact fun _ _ _ h => h) (by rfl) ?_ S0.out ?_
  rotate_left
  · intro w hSw
    try dsimp only at hSw
    go_simp
    try with_reducible rfl
  try simp only [Act.put, List.setIfInBounds_toArray, List.set_cons_zero, List.set_cons_succ]
  refine until_take 4 (v := ?_) (by rfl) (by kernel_rfl) (by exact fun _ _ _ h => h) (by rfl) ?_ S0.out ?_
  rotate_left
  · intro w hSw
    try dsimp only at hSw
    go_simp
    try with_reducible rfl
  try simp only [Act.put, List.setIfInBounds_toArray, List.set_cons_zero, List.set_cons_succ]
  refine until_take 5 (v := ?_) (by rfl) (by kernel_rfl) (by exact fun _ _ _ h => h) (by rfl) ?_ S0.out ?_
  rotate_left
  · intro w hSw
    try dsimp only at hSw
    go_simp
    try with_reducible rfl
  try simp only [Act.put, List.setIfInBounds_toArray, List.set_cons_zero, List.set_cons_succ]
  refine until_take 6 (v := ?_) (by rfl) (by kernel_rfl) (by exact fun _ _ _ h => h) (by rfl) ?_ S0.out ?_
  rotate_left
  · intro w hSw
    try dsimp only at hSw
    go_simp
    try with_reducible rfl
  try simp only [Act.put, List.setIfInBounds_toArray, List.set_cons_zero, List.set_cons_succ]
  refine until_take 7 (v := ?_) (by rfl) (by kernel_rfl) (by exact fun _ _ _ h => h) (by rfl) ?_ S0.out ?_
  rotate_left
  · intro w hSw
    try dsimp only at hSw
    go_simp
    try with_reducible rfl
  try simp only [Act.put, List.setIfInBounds_toArray, List.set_cons_zero, List.set_cons_succ]
  refine until_take 8 (v := ?_) (by rfl) (by kernel_rfl) (by exact fun _ _ _ h => h) (by rfl) ?_ S0.out ?_
  rotate_left
  · intro w hSw
    try dsimp only at hSw
    go_simp
    try with_reducible rfl
  try simp only [Act.put, List.setIfInBounds_toArray, List.set_cons_zero, List.set_cons_succ]
  refine until_one 9 (by rfl) (by kernel_rfl) (fun K hK => ?_)
  go_simp
  refine (placeV _ g q S0.out.2).mono ?_
  rintro e w' ⟨rfl, rfl⟩
  go_wp2_with fail
  refine hK.out _ _ (fun _ h => h) ?_
  clear hK K
  try simp only [Act.put, List.setIfInBounds_toArray, List.set_cons_zero, List.set_cons_succ]
  refine until_pure 10 (v := ?_) (by rfl) (by kernel_rfl) (by exact fun _ _ _ h => h) (by rfl) ?_ ?_
  rotate_left
  · intro w
    go_simp
    try with_reducible rfl
  try simp only [Act.put, List.setIfInBounds_toArray, List.set_cons_zero, List.set_cons_succ]
  refine until_pure 11 (v := ?_) (by rfl) (by kernel_rfl) (by exact fun _ _ _ h => h) (by rfl) ?_ ?_
  rotate_left
  · intro w
    go_simp
    try with_reducible rfl
  try simp only [Act.put, List.setIfInBounds_toArray, List.set_cons_zero, List.set_cons_succ]
  refine until_done (by kernel_rfl) ?_ _
  go_wp2_with fail
  go_ret
  exact ⟨rfl, B2.out, K2.out⟩
end Go.Proofs.YthgiekeiljflaaaDoor
