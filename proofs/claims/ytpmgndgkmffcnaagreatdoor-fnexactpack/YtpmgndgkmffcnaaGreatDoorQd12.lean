/- NmAid NmLaw BtZig BtAid -/
import Derived.Test.YtpmgndgkmffcnaaGreatDoorQd0
import Derived.WalkKit
import Derived.ProofKit
import Derived.Laws.OwnMore
import Derived.Below
import Derived.OwnWalk
import Derived.WalkSmall
import Derived.Lib.OwnKind
import Derived.Shelf.Strings.BuilderK
import Derived.Test.YtpmgndgkmffcnaaGreatDoorRows
import Derived.Test.YtpmgndgkmffcnaaGreatDoorQd6
import Derived.OpenShut
import Derived.WalkLawsBesides
import Derived.Outline
import Derived.BigQuiet
import Derived.Deep.QuietTactic
import Derived.Deep.RegionWith
import Derived.Test.YtpmgndgkmffcnaaGreatDoorQd11
namespace Go.Proofs.YtpmgndgkmffcnaaGreatDoor
open Go.RowKit Go.PlainAid
def numCells (l : List Int) : List Value := l.map fun z => Value.int .i64 z
def Nums (w : World) (base : Nat) (v : Value) (l : List Int) : Prop := w.ownsRow base 3 1 v l.length (numCells l)
def NumsV (w : World) (B : Nat) (v : Value) (l : List Int) : Prop :=
 ∃ A cap, v = .slice A l.length cap ∧ l.length ≤ cap ∧ cap ≤ maxLen ∧ ∀ j, j < l.length → ∃ g off, A = some ⟨g, off, none⟩ ∧ g < B ∧ w.cell? ⟨g, off + j, none⟩ = some (.int .i64 (l.getD j 0))
theorem Nums.nil (w : World) (base : Nat) : Nums w base (.slice none 0 0) [] := World.ownsRow_nil w base 3 1
theorem Nums.empty (w : World) (base : Nat) (hb : base ≤ w.heap.size) : Nums (w.alloc (.cells #[] 3)) base (.slice (some ⟨w.heap.size, 0, none⟩) 0 0) [] :=
 World.ownsRow_lit w #[] 0 hb (by unfold maxLen; omega) rfl
theorem Nums.one (w : World) (base : Nat) (z : Int) (hb : base ≤ w.heap.size) : Nums (w.alloc (.cells #[.int .i64 z] 3)) base (.slice (some ⟨w.heap.size, 0, none⟩) 1 1) [z] :=
 World.ownsRow_lit w #[.int .i64 z] 1 hb (by unfold maxLen; omega) rfl
theorem Nums.mono {w : World} {base base' : Nat} {v : Value} {l : List Int} (h : Nums w base v l) (hb : base' ≤ base) : Nums w base' v l :=
 ⟨h.1, h.2.imp id fun ⟨g, cap, cur, e, hg, r⟩ => ⟨g, cap, cur, e, Nat.le_trans hb hg, r⟩⟩
theorem Nums.lt {w : World} {base : Nat} {v : Value} {l : List Int} (h : Nums w base v l) : ∀ k, v.ownBlock = some k → base ≤ k ∧ k < w.heap.size := World.ownsRow.lt h
theorem Nums.kept {w w' : World} {base : Nat} {v : Value} {l : List Int} (h : Nums w base v l) (hk : ∀ g, g < w.heap.size → v.ownBlock = some g → w'.heap[g]? = w.heap[g]?) : Nums w' base v l := by
 have hl := World.ownsRow.lt h
 refine ⟨h.1, h.2.imp id ?_⟩
 rintro ⟨g, cap, cur, rfl, hg, hh, r⟩
 refine ⟨g, cap, cur, rfl, hg, ?_, r⟩
 rw [hk g (hl g rfl).2 rfl]
 exact hh
theorem Nums.on {w w' : World} {base : Nat} {v : Value} {l : List Int} (h : Nums w base v l) (hb : Below w.heap.size w w') : Nums w' base v l := h.kept fun g hg _ => hb.block g hg
theorem Nums.under {w w' : World} {base B : Nat} {v : Value} {l : List Int} (h : Nums w base v l) (hB : w.heap.size ≤ B) (hb : Below B w w') : Nums w' base v l := h.kept fun g hg _ => hb.block g (Nat.lt_of_lt_of_le hg hB)
theorem Nums.heap {w w' : World} {base : Nat} {v : Value} {l : List Int} (h : Nums w base v l) (hh : w'.heap = w.heap) : Nums w' base v l := h.kept fun g _ _ => by rw [hh]
theorem Nums.alloc {w : World} {base : Nat} {v : Value} {l : List Int} (h : Nums w base v l) (o : Obj) : Nums (w.alloc o) base v l := World.ownsRow.alloc h o
theorem Nums.other {w : World} {base : Nat} {v : Value} {l : List Int} (h : Nums w base v l) {g : Nat} (hne : v.ownBlock ≠ some g) (i : Nat) (x : Value) : Nums (w.setCell ⟨g, i, none⟩ x) base v l :=
 h.kept fun k _ hk => Below.heap_setCell _ _ _ _ (fun e => hne (by rw [hk]; exact congrArg some e))
theorem Nums.others {w w' : World} {base b : Nat} {v : Value} {l : List Int} (h : Nums w base v l) (hk : Lib.OthersKept 5 (some b) w w') (hb : v.ownBlock ≠ some b) : Nums w' base v l :=
 h.kept fun g hg ho => by
  obtain ⟨c, fz, e1⟩ := Lib.ownsRow_kind h g ho
  rw [hk g _ e1 (fun e => hb (by rw [ho]; exact e)) (fun c fz e => by cases e), e1]
theorem Nums.form {w : World} {base : Nat} {v : Value} {l : List Int} (h : Nums w base v l) : (v = .slice none 0 0 ∧ l = []) ∨ ∃ g cap, v = .slice (some ⟨g, 0, none⟩) l.length cap ∧ l.length ≤ cap ∧ cap ≤ maxLen ∧ base ≤ g ∧ g < w.heap.size := by
 have hl := World.ownsRow.lt h
 rcases h.2 with ⟨rfl, h0⟩ | ⟨g, cap, cur, rfl, hg, _, hc, hm, _⟩
 ·exact .inl ⟨rfl, List.eq_nil_of_length_eq_zero h0⟩
 ·exact .inr ⟨g, cap, rfl, hc, hm, hg, (hl g rfl).2⟩
theorem Nums.shape {w : World} {base : Nat} {v : Value} {l : List Int} (h : Nums w base v l) : ∃ A c, v = .slice A l.length c ∧ l.length ≤ c ∧ c ≤ maxLen := by
 rcases h.form with ⟨rfl, rfl⟩ | ⟨g, c, rfl, h1, h2, _⟩
 ·exact ⟨_, _, rfl, by simp, by unfold maxLen; omega⟩
 ·exact ⟨_, _, rfl, h1, h2⟩
theorem Nums.len {w : World} {base n cap : Nat} {A : Option Addr} {l : List Int} (h : Nums w base (.slice A n cap) l) : n = l.length := by
 rcases h.form with ⟨e, e2⟩ | ⟨g', c', e, _⟩
 ·injection e with _ e1; rw [e1, e2]; rfl
 ·injection e
theorem Nums.cell {w : World} {base g cap n : Nat} {l : List Int} (h : Nums w base (.slice (some ⟨g, 0, none⟩) n cap) l) (j : Nat) (hj : j < l.length) : w.cell? ⟨g, j, none⟩ = some (.int .i64 (l.getD j 0)) := by
 have hn := h.len
 subst hn
 rw [World.ownsRow.cellAt h j (by omega)]
 simp [numCells, hj]
theorem Nums.frozen {w : World} {base g cap n : Nat} {l : List Int} (h : Nums w base (.slice (some ⟨g, 0, none⟩) n cap) l) (j : Nat) : w.frozen? ⟨g, j, none⟩ = false := by
 have hn := h.len
 subst hn
 exact World.ownsRow.frozenAt h j
theorem Nums.stored {w : World} {base g cap n : Nat} {l : List Int} (h : Nums w base (.slice (some ⟨g, 0, none⟩) n cap) l) (j : Nat) (x : Int) :
  Nums (w.setCell ⟨g, j, none⟩ (.int .i64 x)) base (.slice (some ⟨g, 0, none⟩) n cap) (l.set j x) := by
 have hn := h.len
 subst hn
 have hs := (World.ownsRow.stored h j (.int .i64 x)).1
 unfold Nums
 rw [List.length_set, numCells, List.map_set]
 exact hs
theorem Nums.block {w : World} {base n cap : Nat} {A : Option Addr} {l : List Int} (h : Nums w base (.slice A n cap) l) (hn : 0 < l.length) : ∃ g, A = some ⟨g, 0, none⟩ ∧ base ≤ g ∧ g < w.heap.size := by
 rcases h.form with ⟨e, e2⟩ | ⟨g', c', e, _, _, h3, h4⟩
 ·rw [e2] at hn; simp at hn
 ·injection e with e1; exact ⟨g', e1, h3, h4⟩
theorem Nums.lies {w : World} {base : Nat} {v : Value} {l : List Int} (h : Nums w base v l) : NumsV w w.heap.size v l := by
 rcases h.form with ⟨rfl, rfl⟩ | ⟨g, c, rfl, h1, h2, h3, h4⟩
 ·exact ⟨none, 0, rfl, Nat.zero_le _, by unfold maxLen; omega, fun j hj => by simp at hj⟩
 ·exact ⟨_, c, rfl, h1, h2, fun j hj => ⟨g, 0, rfl, h4, by rw [Nat.zero_add]; exact h.cell j hj⟩⟩
theorem NumsV.on {w w' : World} {B : Nat} {v : Value} {l : List Int} (h : NumsV w B v l) (hb : Below B w w') : NumsV w' B v l := by
 obtain ⟨A, cap, rfl, h1, h2, h3⟩ := h
 refine ⟨A, cap, rfl, h1, h2, fun j hj => ?_⟩
 obtain ⟨g, off, rfl, hg, hc⟩ := h3 j hj
 exact ⟨g, off, rfl, hg, by rw [hb.cell (p := ⟨_, _, none⟩) hg]; exact hc⟩
theorem NumsV.mono {w : World} {B C : Nat} {v : Value} {l : List Int} (h : NumsV w B v l) (hB : B ≤ C) : NumsV w C v l := by
 obtain ⟨A, cap, rfl, h1, h2, h3⟩ := h
 refine ⟨A, cap, rfl, h1, h2, fun j hj => ?_⟩
 obtain ⟨g, off, rfl, hg, hc⟩ := h3 j hj
 exact ⟨g, off, rfl, Nat.lt_of_lt_of_le hg hB, hc⟩
theorem NumsV.heap {w w' : World} {B : Nat} {v : Value} {l : List Int} (h : NumsV w B v l) (hh : w'.heap = w.heap) : NumsV w' B v l := by
 obtain ⟨A, cap, rfl, h1, h2, h3⟩ := h
 refine ⟨A, cap, rfl, h1, h2, fun j hj => ?_⟩
 obtain ⟨g, off, rfl, hg, hc⟩ := h3 j hj
 exact ⟨g, off, rfl, hg, by unfold World.cell? at *; rw [hh]; exact hc⟩
theorem NumsV.full {w : World} {B : Nat} {v : Value} {l : List Int} (h : NumsV w B v l) (hn : 0 < l.length) : ∃ g off cap, v = .slice (some ⟨g, off, none⟩) l.length cap ∧ l.length ≤ cap ∧ cap ≤ maxLen ∧ g < B ∧ ∀ wx, Below B w wx → ∀ j, j < l.length → wx.cell? ⟨g, off + j, none⟩ = some (.int .i64 (l.getD j 0)) := by
 obtain ⟨A, cap, rfl, h1, h2, h3⟩ := h
 obtain ⟨g, off, rfl, hg, _⟩ := h3 0 hn
 refine ⟨g, off, cap, rfl, h1, h2, hg, fun wx hx j hj => ?_⟩
 obtain ⟨g', off', e, _, hc⟩ := h3 j hj
 injection e with e
 injection e with e1 e2
 subst e1
 subst e2
 rw [hx.cell (p := ⟨_, _, none⟩) hg]
 exact hc
theorem getD_set_same (l : List Int) (j : Nat) (x : Int) (h : j < l.length) : (l.set j x).getD j 0 = x := by simp [List.getD, h]
theorem getD_set_ne (l : List Int) (j k : Nat) (x : Int) (h : j ≠ k) : (l.set j x).getD k 0 = l.getD k 0 := by simp [List.getD, List.getElem?_set_ne h]
theorem nums_ext {l m : List Int} (h : l.length = m.length) (hj : ∀ j, j < l.length → l.getD j 0 = m.getD j 0) : l = m := by
 apply List.ext_getElem h
 intro j h1 h2
 have := hj j h1
 simpa [List.getD, h1, h2] using this
theorem take_num (l : List Int) (k : Nat) (h : k < l.length) : l.take (k + 1) = l.take k ++ [l.getD k 0] := by
 rw [List.take_succ_eq_append_getElem h]
 simp [List.getD, h]
theorem wpList_append_num {P : Program} {w : World} {ops : Array Oper} {rest : List Oper} {o : Oper} {a : Act} {Q : Exit → Act → World → Prop} (hgd : o.guard = none) (s x : Operand) (t : TypeId)
  (ho : o.op = .call { callee := .builtin .append, args := #[s, x], argTypes := #[t, t] })
  (ht : P.underlying t = some (.slice 3)) (hinfo : (P.info? 3).map (fun i => (i.zero, i.size, i.bytes)) = some (some (.int .i64 0), 1, 8))
  (base : Nat) (v : Value) (l : List Int) (hs : a.eval s = v) (hown : Nums w base v l) (z : Int)
  (hx : a.eval x = .slice (some ⟨w.heap.size, 0, none⟩) 1 1) (hlen : l.length ≤ 2097152) (hbase : base ≤ w.heap.size)
  (h : ∀ v' w', Nums w' base v' (l ++ [z]) → Below base w w' → (∀ g, g < w.heap.size → v.ownBlock ≠ some g → w'.heap[g]? = w.heap[g]?) → wpList P ops Q rest (a.put o.dst v') w') : wpList P ops Q (o :: rest) a (w.alloc (.cells #[.int .i64 z] 3)) := by
 obtain ⟨i0, hi, hz0, hz1, hz2⟩ := info_parts hinfo
 refine wpList_append_own (w := w.alloc (.cells #[.int .i64 z] 3)) hgd s x t ho base 3 i0 (.int .i64 0) 1 8 ht hi hz0 hz1 hz2 rfl (by decide) v l.length (numCells l) hs (hown.alloc _) ⟨w.heap.size, 0, none⟩ 1 1 [.int .i64 z] hx rfl ?_ ?_ ?_ ?_ ?_ ?_
 ·intro j u hj
  have e : (⟨w.heap.size, 0, none⟩ : Addr).add j = ⟨w.heap.size, j, none⟩ := by cases j <;> simp [Addr.add]
  rw [e, World.cell?_alloc_mark]
  simpa using hj
 ·intro u hu
  simp at hu
  subst hu
  rfl
 ·unfold maxLen; omega
 ·omega
 ·simp; omega
 ·intro v' w' h1 h2 _
  have hb0 : ∀ k, v.ownBlock = some k → base ≤ k := fun k hk => (World.ownsRow.lt hown k hk).1
  refine h v' w' ?_ ?_ ?_
  ·unfold Nums
   rw [List.length_append, numCells, List.map_append]
   exact h1
  ·exact ((Below.refl base w).alloc hbase _).grown h2 (by simp; omega) hb0
  ·intro g hg hne
   rw [h2.block g (by simp; omega) (fun e => hne e.symm)]
   exact Below.heap_alloc w _ g hg
end Go.Proofs.YtpmgndgkmffcnaaGreatDoor
namespace Go.Proofs.YtpmgndgkmffcnaaGreatDoor
open Go.ChangeShapes Go.WideShapes Go.ChangeAt Go.RowKit Go.PlainAid
set_option linter.unusedVariables false
theorem Tryz.infoInt : (Tryz.prog.info? 3).map (fun i => (i.zero, i.size, i.bytes)) = some (some (.int .i64 0), 1, 8) := by kernel_rfl
end Go.Proofs.YtpmgndgkmffcnaaGreatDoor
namespace Go.Proofs.YtpmgndgkmffcnaaGreatDoor
open Go.ChangeShapes Go.WideShapes Go.ChangeAt Go.RowKit Go.PlainAid
set_option linter.unusedVariables false
def zig (n : Int) : Int := if n < -140737488355328 ∨ 140737488355328 < n then -1 else if n < 0 then -2 * n - 1 else 2 * n
def unz (z : Int) : Int := if z < 0 ∨ 281474976710656 < z then 0 else if z % 2 = 1 then -((z + 1) / 2) else z / 2
def zok (z : Int) : Bool := decide (0 ≤ z ∧ z ≤ 281474976710656)
theorem zig_range (n : Int) : -1 ≤ zig n ∧ zig n ≤ 281474976710656 := by unfold zig; (repeat' split) <;> omega
theorem zig_pos (n : Int) (h1 : -140737488355328 ≤ n) (h2 : n ≤ 140737488355328) : 0 ≤ zig n := by unfold zig; (repeat' split) <;> omega
theorem unz_range (z : Int) : -140737488355328 ≤ unz z ∧ unz z ≤ 140737488355328 := by unfold unz; (repeat' split) <;> omega
theorem unz_zig (n : Int) (h1 : -140737488355328 ≤ n) (h2 : n ≤ 140737488355328) : unz (zig n) = n := by
 unfold zig
 rw [if_neg (by omega)]
 by_cases h : n < 0
 ·rw [if_pos h]; unfold unz; rw [if_neg (by omega), if_pos (by omega)]; omega
 ·rw [if_neg h]; unfold unz; rw [if_neg (by omega), if_neg (by omega)]; omega
theorem zig_unz (z : Int) (h1 : 0 ≤ z) (h2 : z ≤ 281474976710656) : zig (unz z) = z := by
 unfold unz
 rw [if_neg (by omega)]
 by_cases h : z % 2 = 1
 ·rw [if_pos h]; unfold zig; rw [if_neg (by omega), if_pos (by omega)]; omega
 ·rw [if_neg h]; unfold zig; rw [if_neg (by omega), if_neg (by omega)]; omega
set_option maxHeartbeats 400000 in
theorem impl_zig (n : Int) (w : World) (hn1 : -9223372036854775808 ≤ n) (hn2 : n ≤ 9223372036854775807) : Calls Tryz.prog 158 #[.int .i64 n] w fun e w' => e = .returned (.int .i64 (zig n)) ∧ w = w' := by
 by_cases h1 : n < -140737488355328
 ·have e : zig n = -1 := by unfold zig; rw [if_pos (by omega)]
  rw [e]
  go_enter Tryz.func158, Tryz.ntmps158
  go_wp2
  go_ret
  exact ⟨rfl, rfl⟩
 by_cases h2 : 140737488355328 < n
 ·have e : zig n = -1 := by unfold zig; rw [if_pos (by omega)]
  rw [e]
  go_enter Tryz.func158, Tryz.ntmps158
  go_wp2
  go_ret
  exact ⟨rfl, rfl⟩
 by_cases h3 : n < 0
 ·have e : zig n = -2 * n - 1 := by unfold zig; rw [if_neg (by omega), if_pos h3]
  rw [e]
  go_enter Tryz.func158, Tryz.ntmps158
  go_wp2
  go_ret
  exact ⟨by go_num, rfl⟩
 ·have e : zig n = 2 * n := by unfold zig; rw [if_neg (by omega), if_neg h3]
  rw [e]
  go_enter Tryz.func158, Tryz.ntmps158
  go_wp2
  go_ret
  exact ⟨by go_num, rfl⟩
set_option maxHeartbeats 400000 in
theorem spec_zig (n : Int) (w : World) (hn1 : -9223372036854775808 ≤ n) (hn2 : n ≤ 9223372036854775807) : Calls Tryz.prog 130 #[.int .i64 n] w fun e w' => e = .returned (.int .i64 (zig n)) ∧ w = w' := by
 by_cases h1 : n < -140737488355328 ∨ 140737488355328 < n
 ·have e : zig n = -1 := by unfold zig; rw [if_pos h1]
  rw [e]
  have c := fun wx => in_no n (-140737488355328) 140737488355328 wx h1
  go_enter Tryz.func130, Tryz.ntmps130
  go_wp2_with (go_at_call 36; refine (c _).mono ?_; rintro e w' ⟨rfl, rfl⟩)
  go_ret
  exact ⟨rfl, rfl⟩
 have c := fun wx => in_yes n (-140737488355328) 140737488355328 wx (by omega) (by omega)
 by_cases h3 : n < 0
 ·have e : zig n = -2 * n - 1 := by unfold zig; rw [if_neg (by omega), if_pos h3]
  rw [e]
  have q1 : -140737488355328 ≤ n := by omega
  clear h1
  go_enter Tryz.func130, Tryz.ntmps130
  go_wp2_with (go_at_call 36; refine (c _).mono ?_; rintro e w' ⟨rfl, rfl⟩)
  go_ret
  exact ⟨by go_num, rfl⟩
 ·have e : zig n = 2 * n := by unfold zig; rw [if_neg (by omega), if_neg h3]
  rw [e]
  have q1 : n ≤ 140737488355328 := by omega
  clear h1
  go_enter Tryz.func130, Tryz.ntmps130
  go_wp2_with (go_at_call 36; refine (c _).mono ?_; rintro e w' ⟨rfl, rfl⟩)
  go_ret
  exact ⟨by go_num, rfl⟩
set_option maxHeartbeats 400000 in
theorem impl_unz (z : Int) (w : World) (hn1 : -9223372036854775808 ≤ z) (hn2 : z ≤ 9223372036854775807) : Calls Tryz.prog 183 #[.int .i64 z] w fun e w' => e = .returned (.tuple #[.int .i64 (unz z), .bool (zok z)]) ∧ w = w' := by
 by_cases h1 : z < 0
 ·have e : unz z = 0 := by unfold unz; rw [if_pos (by omega)]
  have e2 : zok z = false := by unfold zok; exact decide_eq_false (by omega)
  rw [e, e2]
  go_enter Tryz.func183, Tryz.ntmps183
  go_wp2
  go_ret2
  exact ⟨rfl, rfl⟩
 by_cases h2 : 281474976710656 < z
 ·have e : unz z = 0 := by unfold unz; rw [if_pos (by omega)]
  have e2 : zok z = false := by unfold zok; exact decide_eq_false (by omega)
  rw [e, e2]
  go_enter Tryz.func183, Tryz.ntmps183
  go_wp2
  go_ret2
  exact ⟨rfl, rfl⟩
 have e2 : zok z = true := by unfold zok; exact decide_eq_true (by omega)
 have q0 : 0 ≤ z := by omega
 by_cases h3 : z % 2 = 1
 ·have e : unz z = -((z + 1) / 2) := by unfold unz; rw [if_neg (by omega), if_pos h3]
  have d1 : Int.tdiv (-(z + 1)) 2 = -((z + 1) / 2) := by rw [Int.neg_tdiv, Int.tdiv_eq_ediv_of_nonneg (by omega)]
  rw [e, e2]
  have d2 : wrap64 (-(z + 1)) = -(z + 1) := by unfold wrap64; omega
  go_enter Tryz.func183, Tryz.ntmps183
  go_wp2
  go_ret2
  exact ⟨by go_num, rfl⟩
 ·have e : unz z = z / 2 := by unfold unz; rw [if_neg (by omega), if_neg h3]
  rw [e, e2]
  go_enter Tryz.func183, Tryz.ntmps183
  go_wp2
  go_ret2
  exact ⟨by go_num, rfl⟩
set_option maxHeartbeats 400000 in
theorem spec_unz (z : Int) (w : World) (hn1 : -9223372036854775808 ≤ z) (hn2 : z ≤ 9223372036854775807) : Calls Tryz.prog 168 #[.int .i64 z] w fun e w' => e = .returned (.tuple #[.int .i64 (unz z), .bool (zok z)]) ∧ w = w' := by
 by_cases h1 : z < 0
 ·have e : unz z = 0 := by unfold unz; rw [if_pos (by omega)]
  have e2 : zok z = false := by unfold zok; exact decide_eq_false (by omega)
  rw [e, e2]
  go_enter Tryz.func168, Tryz.ntmps168
  go_wp2
  go_ret2
  exact ⟨rfl, rfl⟩
 by_cases h2 : 281474976710656 < z
 ·have e : unz z = 0 := by unfold unz; rw [if_pos (by omega)]
  have e2 : zok z = false := by unfold zok; exact decide_eq_false (by omega)
  rw [e, e2]
  go_enter Tryz.func168, Tryz.ntmps168
  go_wp2
  go_ret2
  exact ⟨rfl, rfl⟩
 have e2 : zok z = true := by unfold zok; exact decide_eq_true (by omega)
 have q0 : 0 ≤ z := by omega
 have c := fun wx => spec_zig (unz z) wx (by have := unz_range z; omega) (by have := unz_range z; omega)
 rw [zig_unz z (by omega) (by omega)] at c
 by_cases h3 : z % 2 = 1
 ·have e : unz z = -(z / 2) - 1 := by unfold unz; rw [if_neg (by omega), if_pos h3]; omega
  rw [e] at c
  rw [e, e2]
  go_enter Tryz.func168, Tryz.ntmps168
  go_wp2_with (go_at_call 130; refine (c _).mono ?_; rintro e w' ⟨rfl, rfl⟩)
  go_ret2
  exact ⟨by go_num, rfl⟩
 ·have e : unz z = z / 2 := by unfold unz; rw [if_neg (by omega), if_neg h3]
  rw [e] at c
  rw [e, e2]
  go_enter Tryz.func168, Tryz.ntmps168
  go_wp2_with (go_at_call 130; refine (c _).mono ?_; rintro e w' ⟨rfl, rfl⟩)
  go_ret2
  exact ⟨by go_num, rfl⟩
end Go.Proofs.YtpmgndgkmffcnaaGreatDoor
namespace Go.Proofs.YtpmgndgkmffcnaaGreatDoor
open Go.RowKit Go.PlainAid
def prv (l : List Int) (k : Nat) : Int := if k = 0 then 0 else l.getD (k - 1) 0
def dif (l : List Int) (k : Nat) : Int := l.getD k 0 - prv l k
theorem prv_succ (l : List Int) (k : Nat) : prv l (k + 1) = l.getD k 0 := by simp [prv]
def vPiece (l : List Int) (i : Nat) : List UInt8 := vF 6 (zig (dif l i)).toNat
def turn (l : List Int) (i : Nat) : Int := if i ≤ 1 then dif l i else zig (dif l i - dif l (i - 1))
def tPiece (l : List Int) (i : Nat) : List UInt8 := vF 6 (turn l i).toNat
def cat (f : Nat → List UInt8) (k : Nat) : List UInt8 := (List.range k).flatMap f
theorem cat_zero (f : Nat → List UInt8) : cat f 0 = [] := rfl
theorem cat_succ (f : Nat → List UInt8) (k : Nat) : cat f (k + 1) = cat f k ++ f k := by simp [cat, List.range_succ, List.flatMap_append]
theorem cat_length (f : Nat → List UInt8) (hf : ∀ i, (f i).length ≤ 7) (k : Nat) : (cat f k).length ≤ 7 * k := by
 induction k with
 | zero => simp [cat_zero]
 | succ k ih => rw [cat_succ, List.length_append]; have := hf k; omega
theorem vPiece_length (l : List Int) (i : Nat) : (vPiece l i).length ≤ 7 := by have := vF_length 6 (zig (dif l i)).toNat; unfold vPiece; omega
theorem tPiece_length (l : List Int) (i : Nat) : (tPiece l i).length ≤ 7 := by have := vF_length 6 (turn l i).toNat; unfold tPiece; omega
def VOk (l : List Int) : Prop := 1 ≤ l.length ∧ l.length ≤ 60 ∧ ∀ j, j < l.length → -1099511627776 ≤ l.getD j 0 ∧ l.getD j 0 ≤ 1099511627776
instance (l : List Int) : Decidable (VOk l) := by unfold VOk; infer_instance
def TOk (l : List Int) : Prop := 1 ≤ l.length ∧ l.length ≤ 60 ∧ ∀ j, j < l.length → (0 ≤ l.getD j 0 ∧ l.getD j 0 ≤ 1099511627776) ∧ (0 < j → l.getD (j - 1) 0 < l.getD j 0)
instance (l : List Int) : Decidable (TOk l) := by unfold TOk; infer_instance
def showV (l : List Int) : ByteArray := if VOk l then txt (cat (vPiece l) l.length) else txt []
def showT (l : List Int) : ByteArray := if TOk l then txt (cat (tPiece l) l.length) else txt []
theorem VOk.prv {l : List Int} (h : VOk l) (j : Nat) (hj : j ≤ l.length) : -1099511627776 ≤ prv l j ∧ prv l j ≤ 1099511627776 := by
 unfold Go.Proofs.YtpmgndgkmffcnaaGreatDoor.prv
 split
 ·omega
 ·exact h.2.2 (j - 1) (by omega)
theorem VOk.dif {l : List Int} (h : VOk l) (j : Nat) (hj : j < l.length) : -2199023255552 ≤ dif l j ∧ dif l j ≤ 2199023255552 := by
 have h1 := h.prv j (by omega)
 have h2 := h.2.2 j hj
 unfold Go.Proofs.YtpmgndgkmffcnaaGreatDoor.dif
 omega
theorem TOk.prv {l : List Int} (h : TOk l) (j : Nat) (hj : j ≤ l.length) : 0 ≤ prv l j ∧ prv l j ≤ 1099511627776 := by
 unfold Go.Proofs.YtpmgndgkmffcnaaGreatDoor.prv
 split
 ·omega
 ·exact (h.2.2 (j - 1) (by omega)).1
theorem TOk.dif {l : List Int} (h : TOk l) (j : Nat) (hj : j < l.length) : 0 ≤ dif l j ∧ dif l j ≤ 1099511627776 := by
 have h1 := h.prv j (by omega)
 have h2 := h.2.2 j hj
 unfold Go.Proofs.YtpmgndgkmffcnaaGreatDoor.dif
 refine ⟨?_, by omega⟩
 unfold Go.Proofs.YtpmgndgkmffcnaaGreatDoor.prv
 split
 ·omega
 ·have := h2.2 (by omega)
  omega
theorem TOk.turn {l : List Int} (h : TOk l) (j : Nat) (hj : j < l.length) : 0 ≤ turn l j ∧ turn l j ≤ 281474976710656 := by
 unfold Go.Proofs.YtpmgndgkmffcnaaGreatDoor.turn
 have h1 := h.dif j hj
 split
 ·omega
 ·have h2 := h.dif (j - 1) (by omega)
  exact ⟨zig_pos _ (by omega) (by omega), (zig_range _).2⟩
end Go.Proofs.YtpmgndgkmffcnaaGreatDoor
