/- NmAid LikeAid NmLaw BtZig BtAid BtRd Until -/
import Derived.Test.YtgbepickfhbknaaGreatDoorQr0
import Derived.WalkKit
import Derived.ProofKit
import Derived.Laws.OwnMore
import Derived.Below
import Derived.OwnWalk
import Derived.WalkSmall
import Derived.Lib.OwnKind
import Derived.Shelf.Strings.BuilderK
import Derived.BigQuiet
import Derived.Test.YtgbepickfhbknaaGreatDoorRows
import Derived.OpenShut
import Derived.WalkLawsBesides
import Derived.Outline
import Derived.Deep.QuietTactic
import Derived.Deep.RegionWith
import Derived.Test.YtgbepickfhbknaaGreatDoorQr1
import Derived.Deep.RegionHeld3
import Derived.StillTail
namespace Go.Proofs.YtgbepickfhbknaaGreatDoor
open Go.RowKit Go.PlainAid
def numCells (l : List Int) : List Value := l.map fun z => Value.int .i64 z
def Nums (w : World) (base : Nat) (v : Value) (l : List Int) : Prop := w.ownsRow base 3 1 v l.length (numCells l)
def NumsV (w : World) (B : Nat) (v : Value) (l : List Int) : Prop :=
 ∃ A cap, v = .slice A l.length cap ∧ l.length ≤ cap ∧ cap ≤ maxLen ∧ ∀ j, j < l.length → ∃ g off, A = some ⟨g, off, none⟩ ∧ g < B ∧ w.cell? ⟨g, off + j, none⟩ = some (.int .i64 (l.getD j 0))
theorem Nums.nil (w : World) (base : Nat) : Nums w base (.slice none 0 0) [] := World.ownsRow_nil w base 3 1
theorem Nums.empty (w : World) (base : Nat) (hb : base ≤ w.heap.size) : Nums (w.alloc (.cells #[] 3)) base (.slice (some ⟨w.heap.size, 0, none⟩) 0 0) [] :=
 World.ownsRow_lit w #[] 0 hb (by unfold maxLen; omega) rfl
theorem Nums.one (w : World) (base : Nat) (z : Int) (hb : base ≤ w.heap.size) : Nums (w.alloc (.cells #[.int .i64 z] 3)) base (.slice (some ⟨w.heap.size, 0, none⟩) 1 1) [z] :=
 World.ownsRow_lit w #[.int .i64 z] 1 hb (by unfold maxLen; omega) rfl
theorem Nums.mono {w : World} {base base' : Nat} {v : Value} {l : List Int} (h : Nums w base v l) (hb : base' ≤ base) : Nums w base' v l :=
 ⟨h.1, h.2.imp id fun ⟨g, cap, cur, e, hg, r⟩ => ⟨g, cap, cur, e, Nat.le_trans hb hg, r⟩⟩
theorem Nums.lt {w : World} {base : Nat} {v : Value} {l : List Int} (h : Nums w base v l) : ∀ k, v.ownBlock = some k → base ≤ k ∧ k < w.heap.size := World.ownsRow.lt h
theorem Nums.kept {w w' : World} {base : Nat} {v : Value} {l : List Int} (h : Nums w base v l) (hk : ∀ g, g < w.heap.size → v.ownBlock = some g → w'.heap[g]? = w.heap[g]?) : Nums w' base v l := by
 have hl := World.ownsRow.lt h
 refine ⟨h.1, h.2.imp id ?_⟩
 rintro ⟨g, cap, cur, rfl, hg, hh, r⟩
 refine ⟨g, cap, cur, rfl, hg, ?_, r⟩
 rw [hk g (hl g rfl).2 rfl]
 exact hh
theorem Nums.on {w w' : World} {base : Nat} {v : Value} {l : List Int} (h : Nums w base v l) (hb : Below w.heap.size w w') : Nums w' base v l := h.kept fun g hg _ => hb.block g hg
theorem Nums.under {w w' : World} {base B : Nat} {v : Value} {l : List Int} (h : Nums w base v l) (hB : w.heap.size ≤ B) (hb : Below B w w') : Nums w' base v l := h.kept fun g hg _ => hb.block g (Nat.lt_of_lt_of_le hg hB)
theorem Nums.heap {w w' : World} {base : Nat} {v : Value} {l : List Int} (h : Nums w base v l) (hh : w'.heap = w.heap) : Nums w' base v l := h.kept fun g _ _ => by rw [hh]
theorem Nums.alloc {w : World} {base : Nat} {v : Value} {l : List Int} (h : Nums w base v l) (o : Obj) : Nums (w.alloc o) base v l := World.ownsRow.alloc h o
theorem Nums.other {w : World} {base : Nat} {v : Value} {l : List Int} (h : Nums w base v l) {g : Nat} (hne : v.ownBlock ≠ some g) (i : Nat) (x : Value) : Nums (w.setCell ⟨g, i, none⟩ x) base v l :=
 h.kept fun k _ hk => Below.heap_setCell _ _ _ _ (fun e => hne (by rw [hk]; exact congrArg some e))
theorem Nums.others {w w' : World} {base b : Nat} {v : Value} {l : List Int} (h : Nums w base v l) (hk : Lib.OthersKept 5 (some b) w w') (hb : v.ownBlock ≠ some b) : Nums w' base v l :=
 h.kept fun g hg ho => by
  obtain ⟨c, fz, e1⟩ := Lib.ownsRow_kind h g ho
  rw [hk g _ e1 (fun e => hb (by rw [ho]; exact e)) (fun c fz e => by cases e), e1]
theorem Nums.form {w : World} {base : Nat} {v : Value} {l : List Int} (h : Nums w base v l) : (v = .slice none 0 0 ∧ l = []) ∨ ∃ g cap, v = .slice (some ⟨g, 0, none⟩) l.length cap ∧ l.length ≤ cap ∧ cap ≤ maxLen ∧ base ≤ g ∧ g < w.heap.size := by
 have hl := World.ownsRow.lt h
 rcases h.2 with ⟨rfl, h0⟩ | ⟨g, cap, cur, rfl, hg, _, hc, hm, _⟩
 ·exact .inl ⟨rfl, List.eq_nil_of_length_eq_zero h0⟩
 ·exact .inr ⟨g, cap, rfl, hc, hm, hg, (hl g rfl).2⟩
theorem Nums.shape {w : World} {base : Nat} {v : Value} {l : List Int} (h : Nums w base v l) : ∃ A c, v = .slice A l.length c ∧ l.length ≤ c ∧ c ≤ maxLen := by
 rcases h.form with ⟨rfl, rfl⟩ | ⟨g, c, rfl, h1, h2, _⟩
 ·exact ⟨_, _, rfl, by simp, by unfold maxLen; omega⟩
 ·exact ⟨_, _, rfl, h1, h2⟩
theorem Nums.len {w : World} {base n cap : Nat} {A : Option Addr} {l : List Int} (h : Nums w base (.slice A n cap) l) : n = l.length := by
 rcases h.form with ⟨e, e2⟩ | ⟨g', c', e, _⟩
 ·injection e with _ e1; rw [e1, e2]; rfl
 ·injection e
theorem Nums.cell {w : World} {base g cap n : Nat} {l : List Int} (h : Nums w base (.slice (some ⟨g, 0, none⟩) n cap) l) (j : Nat) (hj : j < l.length) : w.cell? ⟨g, j, none⟩ = some (.int .i64 (l.getD j 0)) := by
 have hn := h.len
 subst hn
 rw [World.ownsRow.cellAt h j (by omega)]
 simp [numCells, hj]
theorem Nums.frozen {w : World} {base g cap n : Nat} {l : List Int} (h : Nums w base (.slice (some ⟨g, 0, none⟩) n cap) l) (j : Nat) : w.frozen? ⟨g, j, none⟩ = false := by
 have hn := h.len
 subst hn
 exact World.ownsRow.frozenAt h j
theorem Nums.stored {w : World} {base g cap n : Nat} {l : List Int} (h : Nums w base (.slice (some ⟨g, 0, none⟩) n cap) l) (j : Nat) (x : Int) :
  Nums (w.setCell ⟨g, j, none⟩ (.int .i64 x)) base (.slice (some ⟨g, 0, none⟩) n cap) (l.set j x) := by
 have hn := h.len
 subst hn
 have hs := (World.ownsRow.stored h j (.int .i64 x)).1
 unfold Nums
 rw [List.length_set, numCells, List.map_set]
 exact hs
theorem Nums.block {w : World} {base n cap : Nat} {A : Option Addr} {l : List Int} (h : Nums w base (.slice A n cap) l) (hn : 0 < l.length) : ∃ g, A = some ⟨g, 0, none⟩ ∧ base ≤ g ∧ g < w.heap.size := by
 rcases h.form with ⟨e, e2⟩ | ⟨g', c', e, _, _, h3, h4⟩
 ·rw [e2] at hn; simp at hn
 ·injection e with e1; exact ⟨g', e1, h3, h4⟩
theorem Nums.lies {w : World} {base : Nat} {v : Value} {l : List Int} (h : Nums w base v l) : NumsV w w.heap.size v l := by
 rcases h.form with ⟨rfl, rfl⟩ | ⟨g, c, rfl, h1, h2, h3, h4⟩
 ·exact ⟨none, 0, rfl, Nat.zero_le _, by unfold maxLen; omega, fun j hj => by simp at hj⟩
 ·exact ⟨_, c, rfl, h1, h2, fun j hj => ⟨g, 0, rfl, h4, by rw [Nat.zero_add]; exact h.cell j hj⟩⟩
theorem NumsV.on {w w' : World} {B : Nat} {v : Value} {l : List Int} (h : NumsV w B v l) (hb : Below B w w') : NumsV w' B v l := by
 obtain ⟨A, cap, rfl, h1, h2, h3⟩ := h
 refine ⟨A, cap, rfl, h1, h2, fun j hj => ?_⟩
 obtain ⟨g, off, rfl, hg, hc⟩ := h3 j hj
 exact ⟨g, off, rfl, hg, by rw [hb.cell (p := ⟨_, _, none⟩) hg]; exact hc⟩
theorem NumsV.mono {w : World} {B C : Nat} {v : Value} {l : List Int} (h : NumsV w B v l) (hB : B ≤ C) : NumsV w C v l := by
 obtain ⟨A, cap, rfl, h1, h2, h3⟩ := h
 refine ⟨A, cap, rfl, h1, h2, fun j hj => ?_⟩
 obtain ⟨g, off, rfl, hg, hc⟩ := h3 j hj
 exact ⟨g, off, rfl, Nat.lt_of_lt_of_le hg hB, hc⟩
theorem NumsV.heap {w w' : World} {B : Nat} {v : Value} {l : List Int} (h : NumsV w B v l) (hh : w'.heap = w.heap) : NumsV w' B v l := by
 obtain ⟨A, cap, rfl, h1, h2, h3⟩ := h
 refine ⟨A, cap, rfl, h1, h2, fun j hj => ?_⟩
 obtain ⟨g, off, rfl, hg, hc⟩ := h3 j hj
 exact ⟨g, off, rfl, hg, by unfold World.cell? at *; rw [hh]; exact hc⟩
theorem NumsV.full {w : World} {B : Nat} {v : Value} {l : List Int} (h : NumsV w B v l) (hn : 0 < l.length) : ∃ g off cap, v = .slice (some ⟨g, off, none⟩) l.length cap ∧ l.length ≤ cap ∧ cap ≤ maxLen ∧ g < B ∧ ∀ wx, Below B w wx → ∀ j, j < l.length → wx.cell? ⟨g, off + j, none⟩ = some (.int .i64 (l.getD j 0)) := by
 obtain ⟨A, cap, rfl, h1, h2, h3⟩ := h
 obtain ⟨g, off, rfl, hg, _⟩ := h3 0 hn
 refine ⟨g, off, cap, rfl, h1, h2, hg, fun wx hx j hj => ?_⟩
 obtain ⟨g', off', e, _, hc⟩ := h3 j hj
 injection e with e
 injection e with e1 e2
 subst e1
 subst e2
 rw [hx.cell (p := ⟨_, _, none⟩) hg]
 exact hc
theorem getD_set_same (l : List Int) (j : Nat) (x : Int) (h : j < l.length) : (l.set j x).getD j 0 = x := by simp [List.getD, h]
theorem getD_set_ne (l : List Int) (j k : Nat) (x : Int) (h : j ≠ k) : (l.set j x).getD k 0 = l.getD k 0 := by simp [List.getD, List.getElem?_set_ne h]
theorem nums_ext {l m : List Int} (h : l.length = m.length) (hj : ∀ j, j < l.length → l.getD j 0 = m.getD j 0) : l = m := by
 apply List.ext_getElem h
 intro j h1 h2
 have := hj j h1
 simpa [List.getD, h1, h2] using this
theorem take_num (l : List Int) (k : Nat) (h : k < l.length) : l.take (k + 1) = l.take k ++ [l.getD k 0] := by
 rw [List.take_succ_eq_append_getElem h]
 simp [List.getD, h]
theorem wpList_append_num {P : Program} {w : World} {ops : Array Oper} {rest : List Oper} {o : Oper} {a : Act} {Q : Exit → Act → World → Prop} (hgd : o.guard = none) (s x : Operand) (t : TypeId)
  (ho : o.op = .call { callee := .builtin .append, args := #[s, x], argTypes := #[t, t] })
  (ht : P.underlying t = some (.slice 3)) (hinfo : (P.info? 3).map (fun i => (i.zero, i.size, i.bytes)) = some (some (.int .i64 0), 1, 8))
  (base : Nat) (v : Value) (l : List Int) (hs : a.eval s = v) (hown : Nums w base v l) (z : Int)
  (hx : a.eval x = .slice (some ⟨w.heap.size, 0, none⟩) 1 1) (hlen : l.length ≤ 2097152) (hbase : base ≤ w.heap.size)
  (h : ∀ v' w', Nums w' base v' (l ++ [z]) → Below base w w' → (∀ g, g < w.heap.size → v.ownBlock ≠ some g → w'.heap[g]? = w.heap[g]?) → wpList P ops Q rest (a.put o.dst v') w') : wpList P ops Q (o :: rest) a (w.alloc (.cells #[.int .i64 z] 3)) := by
 obtain ⟨i0, hi, hz0, hz1, hz2⟩ := info_parts hinfo
 refine wpList_append_own (w := w.alloc (.cells #[.int .i64 z] 3)) hgd s x t ho base 3 i0 (.int .i64 0) 1 8 ht hi hz0 hz1 hz2 rfl (by decide) v l.length (numCells l) hs (hown.alloc _) ⟨w.heap.size, 0, none⟩ 1 1 [.int .i64 z] hx rfl ?_ ?_ ?_ ?_ ?_ ?_
 ·intro j u hj
  have e : (⟨w.heap.size, 0, none⟩ : Addr).add j = ⟨w.heap.size, j, none⟩ := by cases j <;> simp [Addr.add]
  rw [e, World.cell?_alloc_mark]
  simpa using hj
 ·intro u hu
  simp at hu
  subst hu
  rfl
 ·unfold maxLen; omega
 ·omega
 ·simp; omega
 ·intro v' w' h1 h2 _
  have hb0 : ∀ k, v.ownBlock = some k → base ≤ k := fun k hk => (World.ownsRow.lt hown k hk).1
  refine h v' w' ?_ ?_ ?_
  ·unfold Nums
   rw [List.length_append, numCells, List.map_append]
   exact h1
  ·exact ((Below.refl base w).alloc hbase _).grown h2 (by simp; omega) hb0
  ·intro g hg hne
   rw [h2.block g (by simp; omega) (fun e => hne e.symm)]
   exact Below.heap_alloc w _ g hg
end Go.Proofs.YtgbepickfhbknaaGreatDoor
namespace Go.Proofs.YtgbepickfhbknaaGreatDoor
open Go.RowKit
theorem cell?_heap {w w' : World} (h : w'.heap = w.heap) (a : Addr) : w'.cell? a = w.cell? a := by
 unfold World.cell?
 rw [h]
theorem below_heap {w w' : World} (h1 : w'.heap = w.heap) (h2 : w'.os = w.os) (h3 : w'.tape = w.tape) (h4 : w'.output = w.output) : Below w.heap.size w w' := ⟨h2, h3, h4, by rw [h1]; exact Nat.le_refl _, fun k _ => by rw [h1]⟩
def Like (w w' : World) : Prop := w'.heap = w.heap ∧ w'.os = w.os ∧ w'.tape = w.tape ∧ w'.output = w.output
theorem Like.refl (w : World) : Like w w := ⟨rfl, rfl, rfl, rfl⟩
theorem Like.drewN {w w' : World} (h : Like w w') (n : Nat) : Like w (w'.drewN n) := h
theorem Like.below {w w' : World} (h : Like w w') : Below w.heap.size w w' := below_heap h.1 h.2.1 h.2.2.1 h.2.2.2
end Go.Proofs.YtgbepickfhbknaaGreatDoor
namespace Go.Proofs.YtgbepickfhbknaaGreatDoor
open Go.ChangeShapes Go.WideShapes Go.ChangeAt Go.RowKit Go.PlainAid
set_option linter.unusedVariables false
theorem Tryz.infoInt : (Tryz.prog.info? 3).map (fun i => (i.zero, i.size, i.bytes)) = some (some (.int .i64 0), 1, 8) := by kernel_rfl
end Go.Proofs.YtgbepickfhbknaaGreatDoor
namespace Go.Proofs.YtgbepickfhbknaaGreatDoor
open Go.ChangeShapes Go.WideShapes Go.ChangeAt Go.RowKit Go.PlainAid
set_option linter.unusedVariables false
def zig (n : Int) : Int := if n < -140737488355328 ∨ 140737488355328 < n then -1 else if n < 0 then -2 * n - 1 else 2 * n
def unz (z : Int) : Int := if z < 0 ∨ 281474976710656 < z then 0 else if z % 2 = 1 then -((z + 1) / 2) else z / 2
def zok (z : Int) : Bool := decide (0 ≤ z ∧ z ≤ 281474976710656)
theorem zig_range (n : Int) : -1 ≤ zig n ∧ zig n ≤ 281474976710656 := by unfold zig; (repeat' split) <;> omega
theorem zig_pos (n : Int) (h1 : -140737488355328 ≤ n) (h2 : n ≤ 140737488355328) : 0 ≤ zig n := by unfold zig; (repeat' split) <;> omega
theorem unz_range (z : Int) : -140737488355328 ≤ unz z ∧ unz z ≤ 140737488355328 := by unfold unz; (repeat' split) <;> omega
theorem unz_zig (n : Int) (h1 : -140737488355328 ≤ n) (h2 : n ≤ 140737488355328) : unz (zig n) = n := by
 unfold zig
 rw [if_neg (by omega)]
 by_cases h : n < 0
 ·rw [if_pos h]; unfold unz; rw [if_neg (by omega), if_pos (by omega)]; omega
 ·rw [if_neg h]; unfold unz; rw [if_neg (by omega), if_neg (by omega)]; omega
theorem zig_unz (z : Int) (h1 : 0 ≤ z) (h2 : z ≤ 281474976710656) : zig (unz z) = z := by
 unfold unz
 rw [if_neg (by omega)]
 by_cases h : z % 2 = 1
 ·rw [if_pos h]; unfold zig; rw [if_neg (by omega), if_pos (by omega)]; omega
 ·rw [if_neg h]; unfold zig; rw [if_neg (by omega), if_neg (by omega)]; omega
set_option maxHeartbeats 400000 in
theorem impl_zig (n : Int) (w : World) (hn1 : -9223372036854775808 ≤ n) (hn2 : n ≤ 9223372036854775807) : Calls Tryz.prog 77 #[.int .i64 n] w fun e w' => e = .returned (.int .i64 (zig n)) ∧ w = w' := by
 by_cases h1 : n < -140737488355328
 ·have e : zig n = -1 := by unfold zig; rw [if_pos (by omega)]
  rw [e]
  go_enter Tryz.func77, Tryz.ntmps77
  go_wp2
  go_ret
  exact ⟨rfl, rfl⟩
 by_cases h2 : 140737488355328 < n
 ·have e : zig n = -1 := by unfold zig; rw [if_pos (by omega)]
  rw [e]
  go_enter Tryz.func77, Tryz.ntmps77
  go_wp2
  go_ret
  exact ⟨rfl, rfl⟩
 by_cases h3 : n < 0
 ·have e : zig n = -2 * n - 1 := by unfold zig; rw [if_neg (by omega), if_pos h3]
  rw [e]
  go_enter Tryz.func77, Tryz.ntmps77
  go_wp2
  go_ret
  exact ⟨by go_num, rfl⟩
 ·have e : zig n = 2 * n := by unfold zig; rw [if_neg (by omega), if_neg h3]
  rw [e]
  go_enter Tryz.func77, Tryz.ntmps77
  go_wp2
  go_ret
  exact ⟨by go_num, rfl⟩
set_option maxHeartbeats 400000 in
theorem spec_zig (n : Int) (w : World) (hn1 : -9223372036854775808 ≤ n) (hn2 : n ≤ 9223372036854775807) : Calls Tryz.prog 55 #[.int .i64 n] w fun e w' => e = .returned (.int .i64 (zig n)) ∧ w = w' := by
 by_cases h1 : n < -140737488355328 ∨ 140737488355328 < n
 ·have e : zig n = -1 := by unfold zig; rw [if_pos h1]
  rw [e]
  have c := fun wx => in_no n (-140737488355328) 140737488355328 wx h1
  go_enter Tryz.func55, Tryz.ntmps55
  go_wp2_with (go_at_call 15; refine (c _).mono ?_; rintro e w' ⟨rfl, rfl⟩)
  go_ret
  exact ⟨rfl, rfl⟩
 have c := fun wx => in_yes n (-140737488355328) 140737488355328 wx (by omega) (by omega)
 by_cases h3 : n < 0
 ·have e : zig n = -2 * n - 1 := by unfold zig; rw [if_neg (by omega), if_pos h3]
  rw [e]
  have q1 : -140737488355328 ≤ n := by omega
  clear h1
  go_enter Tryz.func55, Tryz.ntmps55
  go_wp2_with (go_at_call 15; refine (c _).mono ?_; rintro e w' ⟨rfl, rfl⟩)
  go_ret
  exact ⟨by go_num, rfl⟩
 ·have e : zig n = 2 * n := by unfold zig; rw [if_neg (by omega), if_neg h3]
  rw [e]
  have q1 : n ≤ 140737488355328 := by omega
  clear h1
  go_enter Tryz.func55, Tryz.ntmps55
  go_wp2_with (go_at_call 15; refine (c _).mono ?_; rintro e w' ⟨rfl, rfl⟩)
  go_ret
  exact ⟨by go_num, rfl⟩
set_option maxHeartbeats 400000 in
theorem impl_unz (z : Int) (w : World) (hn1 : -9223372036854775808 ≤ z) (hn2 : z ≤ 9223372036854775807) : Calls Tryz.prog 71 #[.int .i64 z] w fun e w' => e = .returned (.tuple #[.int .i64 (unz z), .bool (zok z)]) ∧ w = w' := by
 by_cases h1 : z < 0
 ·have e : unz z = 0 := by unfold unz; rw [if_pos (by omega)]
  have e2 : zok z = false := by unfold zok; exact decide_eq_false (by omega)
  rw [e, e2]
  go_enter Tryz.func71, Tryz.ntmps71
  go_wp2
  go_ret2
  exact ⟨rfl, rfl⟩
 by_cases h2 : 281474976710656 < z
 ·have e : unz z = 0 := by unfold unz; rw [if_pos (by omega)]
  have e2 : zok z = false := by unfold zok; exact decide_eq_false (by omega)
  rw [e, e2]
  go_enter Tryz.func71, Tryz.ntmps71
  go_wp2
  go_ret2
  exact ⟨rfl, rfl⟩
 have e2 : zok z = true := by unfold zok; exact decide_eq_true (by omega)
 have q0 : 0 ≤ z := by omega
 by_cases h3 : z % 2 = 1
 ·have e : unz z = -((z + 1) / 2) := by unfold unz; rw [if_neg (by omega), if_pos h3]
  have d1 : Int.tdiv (-(z + 1)) 2 = -((z + 1) / 2) := by rw [Int.neg_tdiv, Int.tdiv_eq_ediv_of_nonneg (by omega)]
  rw [e, e2]
  have d2 : wrap64 (-(z + 1)) = -(z + 1) := by unfold wrap64; omega
  go_enter Tryz.func71, Tryz.ntmps71
  go_wp2
  go_ret2
  exact ⟨by go_num, rfl⟩
 ·have e : unz z = z / 2 := by unfold unz; rw [if_neg (by omega), if_neg h3]
  rw [e, e2]
  go_enter Tryz.func71, Tryz.ntmps71
  go_wp2
  go_ret2
  exact ⟨by go_num, rfl⟩
set_option maxHeartbeats 400000 in
theorem spec_unz (z : Int) (w : World) (hn1 : -9223372036854775808 ≤ z) (hn2 : z ≤ 9223372036854775807) : Calls Tryz.prog 53 #[.int .i64 z] w fun e w' => e = .returned (.tuple #[.int .i64 (unz z), .bool (zok z)]) ∧ w = w' := by
 by_cases h1 : z < 0
 ·have e : unz z = 0 := by unfold unz; rw [if_pos (by omega)]
  have e2 : zok z = false := by unfold zok; exact decide_eq_false (by omega)
  rw [e, e2]
  go_enter Tryz.func53, Tryz.ntmps53
  go_wp2
  go_ret2
  exact ⟨rfl, rfl⟩
 by_cases h2 : 281474976710656 < z
 ·have e : unz z = 0 := by unfold unz; rw [if_pos (by omega)]
  have e2 : zok z = false := by unfold zok; exact decide_eq_false (by omega)
  rw [e, e2]
  go_enter Tryz.func53, Tryz.ntmps53
  go_wp2
  go_ret2
  exact ⟨rfl, rfl⟩
 have e2 : zok z = true := by unfold zok; exact decide_eq_true (by omega)
 have q0 : 0 ≤ z := by omega
 have c := fun wx => spec_zig (unz z) wx (by have := unz_range z; omega) (by have := unz_range z; omega)
 rw [zig_unz z (by omega) (by omega)] at c
 by_cases h3 : z % 2 = 1
 ·have e : unz z = -(z / 2) - 1 := by unfold unz; rw [if_neg (by omega), if_pos h3]; omega
  rw [e] at c
  rw [e, e2]
  go_enter Tryz.func53, Tryz.ntmps53
  go_wp2_with (go_at_call 55; refine (c _).mono ?_; rintro e w' ⟨rfl, rfl⟩)
  go_ret2
  exact ⟨by go_num, rfl⟩
 ·have e : unz z = z / 2 := by unfold unz; rw [if_neg (by omega), if_neg h3]
  rw [e] at c
  rw [e, e2]
  go_enter Tryz.func53, Tryz.ntmps53
  go_wp2_with (go_at_call 55; refine (c _).mono ?_; rintro e w' ⟨rfl, rfl⟩)
  go_ret2
  exact ⟨by go_num, rfl⟩
end Go.Proofs.YtgbepickfhbknaaGreatDoor
namespace Go.Proofs.YtgbepickfhbknaaGreatDoor
open Go.RowKit Go.PlainAid
def prv (l : List Int) (k : Nat) : Int := if k = 0 then 0 else l.getD (k - 1) 0
def dif (l : List Int) (k : Nat) : Int := l.getD k 0 - prv l k
theorem prv_succ (l : List Int) (k : Nat) : prv l (k + 1) = l.getD k 0 := by simp [prv]
def vPiece (l : List Int) (i : Nat) : List UInt8 := vF 6 (zig (dif l i)).toNat
def turn (l : List Int) (i : Nat) : Int := if i ≤ 1 then dif l i else zig (dif l i - dif l (i - 1))
def tPiece (l : List Int) (i : Nat) : List UInt8 := vF 6 (turn l i).toNat
def cat (f : Nat → List UInt8) (k : Nat) : List UInt8 := (List.range k).flatMap f
theorem cat_zero (f : Nat → List UInt8) : cat f 0 = [] := rfl
theorem cat_succ (f : Nat → List UInt8) (k : Nat) : cat f (k + 1) = cat f k ++ f k := by simp [cat, List.range_succ, List.flatMap_append]
theorem cat_length (f : Nat → List UInt8) (hf : ∀ i, (f i).length ≤ 7) (k : Nat) : (cat f k).length ≤ 7 * k := by
 induction k with
 | zero => simp [cat_zero]
 | succ k ih => rw [cat_succ, List.length_append]; have := hf k; omega
theorem vPiece_length (l : List Int) (i : Nat) : (vPiece l i).length ≤ 7 := by have := vF_length 6 (zig (dif l i)).toNat; unfold vPiece; omega
theorem tPiece_length (l : List Int) (i : Nat) : (tPiece l i).length ≤ 7 := by have := vF_length 6 (turn l i).toNat; unfold tPiece; omega
def VOk (l : List Int) : Prop := 1 ≤ l.length ∧ l.length ≤ 60 ∧ ∀ j, j < l.length → -1099511627776 ≤ l.getD j 0 ∧ l.getD j 0 ≤ 1099511627776
instance (l : List Int) : Decidable (VOk l) := by unfold VOk; infer_instance
def TOk (l : List Int) : Prop := 1 ≤ l.length ∧ l.length ≤ 60 ∧ ∀ j, j < l.length → (0 ≤ l.getD j 0 ∧ l.getD j 0 ≤ 1099511627776) ∧ (0 < j → l.getD (j - 1) 0 < l.getD j 0)
instance (l : List Int) : Decidable (TOk l) := by unfold TOk; infer_instance
def showV (l : List Int) : ByteArray := if VOk l then txt (cat (vPiece l) l.length) else txt []
def showT (l : List Int) : ByteArray := if TOk l then txt (cat (tPiece l) l.length) else txt []
theorem VOk.prv {l : List Int} (h : VOk l) (j : Nat) (hj : j ≤ l.length) : -1099511627776 ≤ prv l j ∧ prv l j ≤ 1099511627776 := by
 unfold Go.Proofs.YtgbepickfhbknaaGreatDoor.prv
 split
 ·omega
 ·exact h.2.2 (j - 1) (by omega)
theorem VOk.dif {l : List Int} (h : VOk l) (j : Nat) (hj : j < l.length) : -2199023255552 ≤ dif l j ∧ dif l j ≤ 2199023255552 := by
 have h1 := h.prv j (by omega)
 have h2 := h.2.2 j hj
 unfold Go.Proofs.YtgbepickfhbknaaGreatDoor.dif
 omega
theorem TOk.prv {l : List Int} (h : TOk l) (j : Nat) (hj : j ≤ l.length) : 0 ≤ prv l j ∧ prv l j ≤ 1099511627776 := by
 unfold Go.Proofs.YtgbepickfhbknaaGreatDoor.prv
 split
 ·omega
 ·exact (h.2.2 (j - 1) (by omega)).1
theorem TOk.dif {l : List Int} (h : TOk l) (j : Nat) (hj : j < l.length) : 0 ≤ dif l j ∧ dif l j ≤ 1099511627776 := by
 have h1 := h.prv j (by omega)
 have h2 := h.2.2 j hj
 unfold Go.Proofs.YtgbepickfhbknaaGreatDoor.dif
 refine ⟨?_, by omega⟩
 unfold Go.Proofs.YtgbepickfhbknaaGreatDoor.prv
 split
 ·omega
 ·have := h2.2 (by omega)
  omega
theorem TOk.turn {l : List Int} (h : TOk l) (j : Nat) (hj : j < l.length) : 0 ≤ turn l j ∧ turn l j ≤ 281474976710656 := by
 unfold Go.Proofs.YtgbepickfhbknaaGreatDoor.turn
 have h1 := h.dif j hj
 split
 ·omega
 ·have h2 := h.dif (j - 1) (by omega)
  exact ⟨zig_pos _ (by omega) (by omega), (zig_range _).2⟩
end Go.Proofs.YtgbepickfhbknaaGreatDoor
namespace Go.Proofs.YtgbepickfhbknaaGreatDoor
open Go.ChangeShapes Go.WideShapes Go.ChangeAt Go.RowKit Go.PlainAid
set_option linter.unusedVariables false
def Rd (s : ByteArray) : Nat → List Int → Nat → Prop
 | 0, l, n => l = [] ∧ n = 0
 | k + 1, l, n => ∃ l' n' m, Rd s k l' n' ∧ FindV (s.extract n' s.size) m ∧ l = l' ++ [(vvS (s.extract n' s.size) 0 m : Int)] ∧ n = n' + m
def RdNo (s : ByteArray) (k : Nat) : Prop := ∃ j l n, j < k ∧ Rd s j l n ∧ ∀ m, ¬ FindV (s.extract n s.size) m
theorem Rd.one {s : ByteArray} : ∀ {k : Nat} {l l' : List Int} {n n' : Nat}, Rd s k l n → Rd s k l' n' → l = l' ∧ n = n'
 | 0, _, _, _, _, h, h' => ⟨h.1.trans h'.1.symm, h.2.trans h'.2.symm⟩
 | k + 1, _, _, _, _, ⟨a, b, m, h1, h2, h3, h4⟩, ⟨a', b', m', h1', h2', h3', h4'⟩ => by
  obtain ⟨rfl, rfl⟩ := Rd.one h1 h1'
  have := h2.one h2'
  subst this
  exact ⟨h3.trans h3'.symm, h4.trans h4'.symm⟩
theorem Rd.before {s : ByteArray} : ∀ {k : Nat} {l : List Int} {n : Nat}, Rd s k l n → ∀ j, j < k → ∃ l' n' m, Rd s j l' n' ∧ FindV (s.extract n' s.size) m
 | 0, _, _, _, j, hj => by omega
 | k + 1, _, _, ⟨a, b, m, h1, h2, h3, h4⟩, j, hj => by
  by_cases e : j = k
  ·subst e; exact ⟨a, b, m, h1, h2⟩
  ·exact Rd.before h1 j (by omega)
theorem Rd.no {s : ByteArray} {k : Nat} {l : List Int} {n : Nat} (h : Rd s k l n) : ¬ RdNo s k := by
 rintro ⟨j, l', n', hj, h1, h2⟩
 obtain ⟨l2, n2, m, h3, h4⟩ := h.before j hj
 obtain ⟨rfl, rfl⟩ := h1.one h3
 exact h2 m h4
theorem Rd.length {s : ByteArray} : ∀ {k : Nat} {l : List Int} {n : Nat}, Rd s k l n → l.length = k
 | 0, _, _, h => by rw [h.1]; rfl
 | k + 1, _, _, ⟨a, b, m, h1, h2, h3, h4⟩ => by rw [h3, List.length_append, Rd.length h1]; rfl
theorem Rd.le {s : ByteArray} : ∀ {k : Nat} {l : List Int} {n : Nat}, Rd s k l n → k ≤ n ∧ n ≤ s.size
 | 0, _, _, h => by rw [h.2]; omega
 | k + 1, _, _, ⟨a, b, m, h1, h2, h3, h4⟩ => by
  have h5 := Rd.le h1
  obtain ⟨h6, h7, h8, _⟩ := h2
  rw [ByteArray.size_extract] at h8
  omega
theorem Rd.bound {s : ByteArray} : ∀ {k : Nat} {l : List Int} {n : Nat}, Rd s k l n → ∀ z ∈ l, 0 ≤ z ∧ z ≤ 562949953421311
 | 0, _, _, h, z, hz => by rw [h.1] at hz; cases hz
 | k + 1, _, _, ⟨a, b, m, h1, h2, h3, h4⟩, z, hz => by
  rw [h3] at hz
  rcases List.mem_append.1 hz with hz | hz
  ·exact Rd.bound h1 z hz
  ·simp at hz
   have := vvS_le (s.extract b s.size) m h2.2.1 0
   omega
theorem Rd.boundD {s : ByteArray} {k : Nat} {l : List Int} {n : Nat} (h : Rd s k l n) (j : Nat) : 0 ≤ l.getD j 0 ∧ l.getD j 0 ≤ 562949953421311 := by
 by_cases hj : j < l.length
 ·refine h.bound _ ?_
  simp [List.getD, hj]
 ·simp [List.getD, hj]
set_option maxHeartbeats 1000000 in
theorem implReadVars (s : ByteArray) (k0 : Nat) (w : World) (hs : s.size ≤ 1048576) (h1 : 1 ≤ k0) (h2 : k0 ≤ 60) :
  Calls Tryz.prog 59 #[.string s, .int .i64 (k0 : Int)] w fun e w' => ((∃ l n u, Rd s k0 l n ∧ e = .returned (.tuple #[u, .int .i64 (n : Int)]) ∧ Nums w' w.heap.size u l) ∨ (RdNo s k0 ∧ e = .returned (.tuple #[.slice none 0 0, .int .i64 0]))) ∧ Below w.heap.size w w' := by
 have q1 : (1 : Int) ≤ (k0 : Int) := by omega
 have q2 : (k0 : Int) ≤ 60 := by omega
 have HS : Hid (s.size ≤ 1048576) := hs
 have q3 : (s.size : Int) ≤ 1048576 := by omega
 clear hs
 go_enter Tryz.func59, Tryz.ntmps59
 go_wp2_with fail
 go_loopw [6, 7, 17] (fun v6 v7 v17 wr => ∃ (k n : Nat) (l : List Int), k ≤ k0 ∧ n ≤ s.size ∧ v17 = .int .i64 (k : Int) ∧ v7 = .int .i64 (n : Int) ∧ Hid (Rd s k l n) ∧ Nums wr w.heap.size v6 l ∧ Below w.heap.size w wr) (fun _ _ i _ => k0 - (intOf i).toNat)
 case atStart => exact ⟨0, 0, [], by omega, by omega, rfl, rfl, ⟨rfl, rfl⟩, Nums.nil _ _, Below.refl _ _⟩
 case round =>
  obtain ⟨k, n, l, hk, hns, rfl, rfl, HR, hN, hb⟩ := hrel
  have HN : Hid (Nums wr w.heap.size _ l) := hN
  obtain ⟨A, c, rfl, _, _⟩ := hN.shape
  have HB : Hid (Below w.heap.size w wr) := hb
  have hln := HR.out.length
  have HLN : Hid (l.length ≤ 2097152) := by unfold Hid; omega
  clear hN hb
  by_cases hlt : k < k0
  ·have q4 : (k : Int) < (k0 : Int) := by omega
   have q5 : (n : Int) ≤ (s.size : Int) := by omega
   have hsx : (s.extract n s.size).size ≤ 1048576 := by rw [ByteArray.size_extract]; have := HS.out; omega
   have c := fun wx => impl_readVar (s.extract n s.size) wx hsx
   have HX : Hid (∀ m, FindV (s.extract n s.size) m → m ≤ s.size - n) := fun m hm => by have := hm.2.2.1; rw [ByteArray.size_extract] at this; omega
   clear hsx hln
   go_wp2_with fail
   refine (c _).mono ?_
   generalize hsx' : s.extract n s.size = sx at *
   have HSX : Hid (s.extract n s.size = sx) := hsx'
   clear hsx'
   rintro e w1 ⟨hR, rfl⟩
   rcases hR with ⟨m, hm, rfl⟩ | ⟨hno, rfl⟩
   ·have hmx := HX.out m hm
    have hm1 := hm.1
    have hm7 := hm.2.1
    have q6 : (m : Int) ≤ 7 := by omega
    have q7 : (1 : Int) ≤ (m : Int) := by omega
    have q8 : ¬ (m : Int) = 0 := by omega
    have q9 : ¬ m = 0 := by omega
    have HM : Hid (FindV sx m) := hm
    have HZ : Hid (w.heap.size ≤ wr.heap.size) := HB.out.size
    generalize hz : (vvS sx 0 m : Int) = z at *
    have HR2 : Hid (Rd s (k + 1) (l ++ [z]) (n + m)) := by
     refine ⟨l, n, m, HR.out, ?_, ?_, rfl⟩
     ·rw [HSX.out]; exact HM.out
     ·rw [HSX.out, hz]
    clear hz hm
    go_wp2_with (at_builtin; refine wpList_append_num rfl (.tmp 28) (.tmp 30) 30 rfl Tryz.underlying30 Tryz.infoInt w.heap.size _ l rfl HN.out z rfl HLN.out HZ.out ?_; intro v' w1 hN1 hb1 hk1)
    go_roundw
    case rel => exact ⟨k + 1, n + m, l ++ [z], by omega, by omega, by go_num, by go_num, HR2, hN1, HB.out.trans hb1⟩
    case measure => simp [intOf]; omega
   ·have HNO : Hid (RdNo s k0) := ⟨k, l, n, hlt, HR.out, by rw [HSX.out]; exact hno⟩
    clear hno
    go_wp2_with fail
    go_ret2
    exact ⟨.inr ⟨HNO.out, rfl⟩, HB.out⟩
  ·obtain rfl : k = k0 := by omega
   go_wp2_with fail
   go_ret2
   exact ⟨.inl ⟨l, n, _, HR.out, rfl, HN.out⟩, HB.out⟩
set_option maxHeartbeats 1000000 in
theorem implReadVars_no (s : ByteArray) (n : Int) (w : World) (h : n < 1 ∨ 60 < n) : Calls Tryz.prog 59 #[.string s, .int .i64 n] w fun e w' => e = .returned (.tuple #[.slice none 0 0, .int .i64 0]) ∧ w = w' := by
 by_cases h1 : n < 1
 ·go_enter Tryz.func59, Tryz.ntmps59
  go_wp2_with fail
  go_ret2
  exact ⟨rfl, rfl⟩
 ·have h2 : 60 < n := by omega
  clear h
  go_enter Tryz.func59, Tryz.ntmps59
  go_wp2_with fail
  go_ret2
  exact ⟨rfl, rfl⟩
set_option maxHeartbeats 1000000 in
theorem specReadVars (s : ByteArray) (k0 : Nat) (w : World) (hs : s.size ≤ 1048576) (h1 : 1 ≤ k0) (h2 : k0 ≤ 60) :
  Calls Tryz.prog 41 #[.string s, .int .i64 (k0 : Int)] w fun e w' => ((∃ l n u, Rd s k0 l n ∧ e = .returned (.tuple #[u, .int .i64 (n : Int)]) ∧ Nums w' w.heap.size u l) ∨ (RdNo s k0 ∧ ∃ u, e = .returned (.tuple #[u, .int .i64 (-1)]))) ∧ Below w.heap.size w w' := by
 have q1 : (1 : Int) ≤ (k0 : Int) := by omega
 have q2 : (k0 : Int) ≤ 60 := by omega
 have HS : Hid (s.size ≤ 1048576) := hs
 have q3 : (s.size : Int) ≤ 1048576 := by omega
 clear hs
 go_enter Tryz.func41, Tryz.ntmps41
 go_wp2_with fail
 go_loopw [6, 7, 8] (fun v6 v7 v8 wr => ∃ (k n : Nat) (l : List Int), k ≤ k0 ∧ n ≤ s.size ∧ v8 = .int .i64 (k : Int) ∧ v7 = .int .i64 (n : Int) ∧ Hid (Rd s k l n) ∧ Nums wr w.heap.size v6 l ∧ Below w.heap.size w wr) (fun _ _ i _ => k0 - (intOf i).toNat)
 case atStart => exact ⟨0, 0, [], by omega, by omega, rfl, rfl, ⟨rfl, rfl⟩, Nums.empty _ _ (Nat.le_refl _), (Below.refl _ _).alloc (Nat.le_refl _) _⟩
 case round =>
  obtain ⟨k, n, l, hk, hns, rfl, rfl, HR, hN, hb⟩ := hrel
  have HN : Hid (Nums wr w.heap.size _ l) := hN
  obtain ⟨A, c, rfl, _, _⟩ := hN.shape
  have HB : Hid (Below w.heap.size w wr) := hb
  have hln := HR.out.length
  have HLN : Hid (l.length ≤ 2097152) := by unfold Hid; omega
  clear hN hb
  by_cases hlt : k < k0
  ·have q4 : (k : Int) < (k0 : Int) := by omega
   have q5 : (n : Int) ≤ (s.size : Int) := by omega
   have hsx : (s.extract n s.size).size ≤ 1048576 := by rw [ByteArray.size_extract]; have := HS.out; omega
   have c := fun wx => spec_readVar (s.extract n s.size) wx hsx
   have HX : Hid (∀ m, FindV (s.extract n s.size) m → m ≤ s.size - n) := fun m hm => by have := hm.2.2.1; rw [ByteArray.size_extract] at this; omega
   clear hsx hln
   go_wp2_with fail
   refine (c _).mono ?_
   generalize hsx' : s.extract n s.size = sx at *
   have HSX : Hid (s.extract n s.size = sx) := hsx'
   clear hsx'
   rintro e w1 ⟨hR, hb1⟩
   have HB1 : Hid (Below w.heap.size w w1) := HB.out.trans (hb1.mono HB.out.size)
   have HN1 : Hid (Nums w1 w.heap.size (.slice A l.length _) l) := HN.out.on hb1
   clear hb1
   rcases hR with ⟨m, hm, rfl⟩ | ⟨hno, rfl⟩
   ·have hmx := HX.out m hm
    have hm1 := hm.1
    have hm7 := hm.2.1
    have q6 : (m : Int) ≤ 7 := by omega
    have q7 : (1 : Int) ≤ (m : Int) := by omega
    have q8 : ¬ (m : Int) = 0 := by omega
    have q9 : ¬ m = 0 := by omega
    have HM : Hid (FindV sx m) := hm
    have HZ : Hid (w.heap.size ≤ w1.heap.size) := HB1.out.size
    generalize hz : (vvS sx 0 m : Int) = z at *
    have HR2 : Hid (Rd s (k + 1) (l ++ [z]) (n + m)) := by
     refine ⟨l, n, m, HR.out, ?_, ?_, rfl⟩
     ·rw [HSX.out]; exact HM.out
     ·rw [HSX.out, hz]
    clear hz hm
    go_wp2_with (at_builtin; refine wpList_append_num rfl (.tmp 27) (.tmp 29) 30 rfl Tryz.underlying30 Tryz.infoInt w.heap.size _ l rfl HN1.out z rfl HLN.out HZ.out ?_; intro v' w2 hN2 hb2 hk2)
    go_roundw
    case rel => exact ⟨k + 1, n + m, l ++ [z], by omega, by omega, by go_num, by go_num, HR2, hN2, HB1.out.trans hb2⟩
    case measure => simp [intOf]; omega
   ·have HNO : Hid (RdNo s k0) := ⟨k, l, n, hlt, HR.out, by rw [HSX.out]; exact hno⟩
    clear hno
    go_wp2_with fail
    go_ret2
    exact ⟨.inr ⟨HNO.out, _, rfl⟩, HB1.out⟩
  ·obtain rfl : k = k0 := by omega
   go_wp2_with fail
   go_ret2
   exact ⟨.inl ⟨l, n, _, HR.out, rfl, HN.out⟩, HB.out⟩
end Go.Proofs.YtgbepickfhbknaaGreatDoor
namespace Go.Proofs.YtgbepickfhbknaaGreatDoor
open Go
section
variable {P : Program} {ops : Array Oper} {Q : Exit → Act → World → Prop} {md : Region.Mode} {S : World → Prop} {T : Nat → Bool}
def wpUntil (P : Program) (md : Region.Mode) (ops : Array Oper) (Q : Exit → Act → World → Prop) (S : World → Prop) (T : Nat → Bool) : Nat → Array Bool → Act → World → Prop
 | 0, listed, a, w => Region.ready md ops listed = [] ∧ Q .normal a w
 | fuel + 1, listed, a, w =>
  (Region.ready md ops listed = [] → Q .normal a w) ∧ ∀ i ∈ Region.ready md ops listed, wpOp P ops Q i (fun a' w' => (T i = false → S w → S w') ∧ wpUntil P md ops Q S T fuel (listed.setIfInBounds i true) a' w') a w
theorem wpAny_of_until : ∀ (fuel : Nat) (listed : Array Bool) (a : Act) (w : World), wpUntil P md ops Q S T fuel listed a w → wpAny P md ops Q fuel listed a w
 | 0, _, _, _, h => h
 | fuel + 1, _, _, _, h => ⟨h.1, fun i hi => wpOp_mono (fun a' w' h' => wpAny_of_until fuel _ a' w' h'.2) (h.2 i hi)⟩
def needs (md : Region.Mode) (ops : Array Oper) : Nat → Nat → Nat → Bool
 | 0, _, _ => false
 | f + 1, t, i => match ops[t]? with
  | some o => o.after.any fun e => Region.binds md e && (e.on == i || needs md ops f e.on i)
  | none => false
def Closed (md : Region.Mode) (ops : Array Oper) (listed : Array Bool) : Prop :=
 ∀ j oj, ops[j]? = some oj → listed.getD j false = true → ∀ e ∈ oj.after, Region.binds md e = true → listed.getD e.on false = true
theorem needs_some {f t i : Nat} (h : needs md ops f t i = true) : ∃ o, ops[t]? = some o := by
 cases f with
 | zero => cases h
 | succ f =>
  unfold needs at h
  cases e : ops[t]? with
  | none => rw [e] at h; cases h
  | some o => exact ⟨o, rfl⟩
theorem needs_listed {listed : Array Bool} (hc : Closed md ops listed) : ∀ (f t i : Nat) (ot : Oper), ops[t]? = some ot → (∀ e ∈ ot.after, Region.binds md e = true → listed.getD e.on false = true) → needs md ops f t i = true → listed.getD i false = true
 | 0, _, _, _, _, _, h => by cases h
 | f + 1, t, i, ot, hot, hall, h => by
  unfold needs at h
  rw [hot] at h
  obtain ⟨e, he, hb⟩ := Array.any_eq_true'.1 h
  rw [Bool.and_eq_true, Bool.or_eq_true] at hb
  have h1 := hall e he hb.1
  rcases hb.2 with h2 | h2
  ·rw [← beq_iff_eq.1 h2]
   exact h1
  ·obtain ⟨o2, ho2⟩ := needs_some h2
   exact needs_listed hc f e.on i o2 ho2 (hc e.on o2 ho2 h1) h2
theorem Closed.set {i : Nat} {listed : Array Bool} (h : Closed md ops listed) (hi : i ∈ Region.ready md ops listed) : Closed md ops (listed.setIfInBounds i true) := by
 obtain ⟨_, oi, hoi, hall⟩ := mem_ready.1 hi
 intro j oj hj hl e he hb
 by_cases hij : i = j
 ·subst hij
  have : oj = oi := Option.some.inj (hj.symm.trans hoi)
  subst this
  exact getD_set_true (hall e he hb)
 ·rw [_root_.Go.getD_set_ne false hij] at hl
  exact getD_set_true (h j oj hj hl e he hb)
theorem wpUntil_first {i : Nat} {oi : Oper} {v : Value} (hi : ops[i]? = some oi) (hsel : ∀ (j : Nat) (o : Oper) cs b, ops[j]? = some o → o.op ≠ .select cs b)
  (hQ : ∀ c a w, Q (.panic c) (a.put oi.dst v) w → Q (.panic c) a w) (hT : ∀ t, t < ops.size → T t = true → needs md ops ops.size t i = true) :
  ∀ (fuel : Nat) (listed : Array Bool) (a : Act) (w : World), Closed md ops listed →
   (∀ j oj, ops[j]? = some oj → j ≠ i → listed.getD j true = false → (∀ e ∈ oj.after, Region.binds md e = true → e.on ≠ i) → oi.apart ops oj = true) →
   i ∈ Region.ready md ops listed → YieldsIf P ops S oi v a → S w →
   wpUntil P md ops Q S T fuel (listed.setIfInBounds i true) (a.put oi.dst v) w → wpUntil P md ops Q S T (fuel + 1) listed a w := by
 intro fuel
 induction fuel with
 | zero =>
  intro listed a w _ _ hr hy hS H
  refine ⟨fun h => (by rw [h] at hr; cases hr), fun j hj => ?_⟩
  by_cases hji : j = i
  ·subst hji
   exact hy.wpOp hi hS ⟨fun _ h => h, H⟩
  ·have := ready_mono hj hji
   rw [H.1] at this
   cases this
 | succ fuel ih =>
  intro listed a w hc hfree hr hy hS H
  refine ⟨fun h => (by rw [h] at hr; cases hr), fun j hj => ?_⟩
  by_cases hji : j = i
  ·subst hji
   exact hy.wpOp hi hS ⟨fun _ h => h, H⟩
  ·have h1 := H.2 j (ready_mono hj hji)
   obtain ⟨hjun, oj, hoj, hall⟩ := mem_ready.1 hj
   have hun := getD_both (mem_ready.1 hr).1
   have hnot : ∀ e ∈ oj.after, Region.binds md e = true → e.on ≠ i := fun e he hb heq => by
    have h1 := hall e he hb
    rw [heq, hun] at h1
    cases h1
   have hTj : T j = false := by
    cases e : T j with
    | false => rfl
    | true =>
     have := needs_listed hc _ j i oj hoj hall (hT j (Array.getElem?_eq_some_iff.1 hoj).1 e)
     rw [hun] at this
     cases this
   have h2 := wpOp_putIf hoj (hfree j oj hoj hji hjun hnot) (fun cs b => hsel i oi cs b hi) (fun cs b => hsel j oj cs b hoj) hQ hy h1
   have hfree' : ∀ k ok, ops[k]? = some ok → k ≠ i → (listed.setIfInBounds j true).getD k true = false →
     (∀ e ∈ ok.after, Region.binds md e = true → e.on ≠ i) → oi.apart ops ok = true := fun k ok hk hki hun hno => by
    refine hfree k ok hk hki ?_ hno
    by_cases hjk : j = k
    ·subst hjk
     exact hjun
    ·rw [_root_.Go.getD_set_ne true hjk] at hun
     exact hun
   refine wpOp_mono (fun a' w' h3 => ⟨h3.2.1, ih (listed.setIfInBounds j true) a' w' (hc.set hj) hfree' (ready_mono hr (Ne.symm hji)) h3.1 (h3.2.1 hTj hS) ?_⟩) h2
   rw [Array.setIfInBounds_comm _ _ hji]
   exact h3.2.2
theorem wpUntil_pure {i : Nat} {oi : Oper} {v : Value} (hi : ops[i]? = some oi) (hsel : ∀ (j : Nat) (o : Oper) cs b, ops[j]? = some o → o.op ≠ .select cs b)
  (hQ : ∀ c a w, Q (.panic c) (a.put oi.dst v) w → Q (.panic c) a w) :
  ∀ (fuel : Nat) (listed : Array Bool) (a : Act) (w : World),
   (∀ j oj, ops[j]? = some oj → j ≠ i → listed.getD j true = false → (∀ e ∈ oj.after, Region.binds md e = true → e.on ≠ i) → oi.apart ops oj = true) →
   i ∈ Region.ready md ops listed → YieldsIf P ops (fun _ => True) oi v a →
   wpUntil P md ops Q S T fuel (listed.setIfInBounds i true) (a.put oi.dst v) w → wpUntil P md ops Q S T (fuel + 1) listed a w := by
 intro fuel
 induction fuel with
 | zero =>
  intro listed a w _ hr hy H
  refine ⟨fun h => (by rw [h] at hr; cases hr), fun j hj => ?_⟩
  by_cases hji : j = i
  ·subst hji
   exact hy.wpOp hi trivial ⟨fun _ h => h, H⟩
  ·have := ready_mono hj hji
   rw [H.1] at this
   cases this
 | succ fuel ih =>
  intro listed a w hfree hr hy H
  refine ⟨fun h => (by rw [h] at hr; cases hr), fun j hj => ?_⟩
  by_cases hji : j = i
  ·subst hji
   exact hy.wpOp hi trivial ⟨fun _ h => h, H⟩
  ·have h1 := H.2 j (ready_mono hj hji)
   obtain ⟨hjun, oj, hoj, hall⟩ := mem_ready.1 hj
   have hun := getD_both (mem_ready.1 hr).1
   have hnot : ∀ e ∈ oj.after, Region.binds md e = true → e.on ≠ i := fun e he hb heq => by
    have h1 := hall e he hb
    rw [heq, hun] at h1
    cases h1
   have h2 := wpOp_putIf hoj (hfree j oj hoj hji hjun hnot) (fun cs b => hsel i oi cs b hi) (fun cs b => hsel j oj cs b hoj) hQ hy h1
   have hfree' : ∀ k ok, ops[k]? = some ok → k ≠ i → (listed.setIfInBounds j true).getD k true = false →
     (∀ e ∈ ok.after, Region.binds md e = true → e.on ≠ i) → oi.apart ops ok = true := fun k ok hk hki hun hno => by
    refine hfree k ok hk hki ?_ hno
    by_cases hjk : j = k
    ·subst hjk
     exact hjun
    ·rw [_root_.Go.getD_set_ne true hjk] at hun
     exact hun
   refine wpOp_mono (fun a' w' h3 => ⟨h3.2.1, ih (listed.setIfInBounds j true) a' w' hfree' (ready_mono hr (Ne.symm hji)) h3.1 ?_⟩) h2
   rw [Array.setIfInBounds_comm _ _ hji]
   exact h3.2.2
def closedB (md : Region.Mode) (ops : Array Oper) (listed : Array Bool) : Bool :=
 (List.range ops.size).all fun j => match ops[j]? with
  | some oj => !(listed.getD j false) || oj.after.all fun e => !Region.binds md e || listed.getD e.on false
  | none => true
theorem closedB_spec {listed : Array Bool} (h : closedB md ops listed = true) : Closed md ops listed := by
 intro j oj hj hl e he hb
 have h1 := List.all_eq_true.1 h j (List.mem_range.2 (Array.getElem?_eq_some_iff.1 hj).1)
 rw [hj] at h1
 simp only [hl, Bool.not_true, Bool.false_or] at h1
 have h2 := Array.all_eq_true'.1 h1 e he
 rw [hb] at h2
 simpa using h2
def takeB (md : Region.Mode) (ops : Array Oper) (T : Nat → Bool) (listed : Array Bool) (i : Nat) : Bool :=
 Region.noSelect ops && Region.free md ops listed i && (Region.ready md ops listed).contains i && closedB md ops listed && (List.range ops.size).all fun t => !T t || needs md ops ops.size t i
theorem drop_at {l : List Oper} {i : Nat} {o : Oper} {rest : List Oper} (h : l.drop i = o :: rest) : l.toArray[i]? = some o := by
 have := congrArg (fun x : List Oper => x[0]?) h
 simpa [List.getElem?_drop] using this
theorem until_take {l : List Oper} (i : Nat) {oi : Oper} {rest : List Oper} {v : Value} {fuel : Nat} {listed : Array Bool} {a : Act} {w : World} (hd : l.drop i = oi :: rest) (hB : takeB md l.toArray T listed i = true)
  (hQ : ∀ c a w, Q (.panic c) (a.put oi.dst v) w → Q (.panic c) a w) (hw : Region.wanted oi (yielded l.toArray a.tmps) = true) (hy : ∀ w, S w → (execOp a.eval oi).run P w = .ok (.value v) w) (hS : S w)
  (h : wpUntil P md l.toArray Q S T fuel (listed.setIfInBounds i true) (a.put oi.dst v) w) : wpUntil P md l.toArray Q S T (fuel + 1) listed a w := by
 unfold takeB at hB
 simp only [Bool.and_eq_true] at hB
 obtain ⟨⟨⟨⟨hs, hf⟩, hr⟩, hc⟩, ht⟩ := hB
 refine wpUntil_first (drop_at hd) (Region.noSelect_spec hs) hQ (fun t htl htt => ?_) fuel listed a w (closedB_spec hc) (Region.free_spec (drop_at hd) hf) (by simpa using hr) (.inl ⟨hw, hy⟩) hS h
 have := List.all_eq_true.1 ht t (List.mem_range.2 htl)
 rw [htt] at this
 simpa using this
def pureB (md : Region.Mode) (ops : Array Oper) (listed : Array Bool) (i : Nat) : Bool := Region.noSelect ops && Region.free md ops listed i && (Region.ready md ops listed).contains i
theorem until_pure {l : List Oper} (i : Nat) {oi : Oper} {rest : List Oper} {v : Value} {fuel : Nat} {listed : Array Bool} {a : Act} {w : World} (hd : l.drop i = oi :: rest) (hB : pureB md l.toArray listed i = true)
  (hQ : ∀ c a w, Q (.panic c) (a.put oi.dst v) w → Q (.panic c) a w) (hw : Region.wanted oi (yielded l.toArray a.tmps) = true) (hy : ∀ w, (execOp a.eval oi).run P w = .ok (.value v) w)
  (h : wpUntil P md l.toArray Q S T fuel (listed.setIfInBounds i true) (a.put oi.dst v) w) : wpUntil P md l.toArray Q S T (fuel + 1) listed a w := by
 unfold pureB at hB
 simp only [Bool.and_eq_true] at hB
 obtain ⟨⟨hs, hf⟩, hr⟩ := hB
 exact wpUntil_pure (drop_at hd) (Region.noSelect_spec hs) hQ fuel listed a w (Region.free_spec (drop_at hd) hf) (by simpa using hr) (.inl ⟨hw, fun w _ => hy w⟩) h
theorem until_one {l : List Oper} (i : Nat) {oi : Oper} {rest : List Oper} {fuel : Nat} {listed : Array Bool} {a : Act} {w : World} (hd : l.drop i = oi :: rest) (hr : Region.ready md l.toArray listed = [i])
  (h : ∀ K : Act → World → Prop, Shut (∀ a' w', (T i = false → S w → S w') → wpUntil P md l.toArray Q S T fuel (listed.setIfInBounds i true) a' w' → K a' w') → if Region.wanted oi (yielded l.toArray a.tmps) = true then Oper.wp P oi a w K Q else K (a.put oi.dst undef) w) :
  wpUntil P md l.toArray Q S T (fuel + 1) listed a w := by
 refine ⟨fun h0 => (by rw [hr] at h0; cases h0), fun j hj => ?_⟩
 rw [hr] at hj
 obtain rfl : j = i := by simpa using hj
 exact wpOp_step (drop_at hd) (fun K hK => h K (fun a w h1 h2 => hK a w ⟨h1, h2⟩))
theorem until_two {l : List Oper} (i j : Nat) {oi oj : Oper} {rest rest' : List Oper} {fuel : Nat} {listed : Array Bool} {a : Act} {w : World} (hd : l.drop i = oi :: rest) (hd' : l.drop j = oj :: rest') (hr : Region.ready md l.toArray listed = [i, j])
  (h : ∀ K : Act → World → Prop, Shut (∀ a' w', (T i = false → S w → S w') → wpUntil P md l.toArray Q S T fuel (listed.setIfInBounds i true) a' w' → K a' w') → if Region.wanted oi (yielded l.toArray a.tmps) = true then Oper.wp P oi a w K Q else K (a.put oi.dst undef) w)
  (h' : ∀ K : Act → World → Prop, Shut (∀ a' w', (T j = false → S w → S w') → wpUntil P md l.toArray Q S T fuel (listed.setIfInBounds j true) a' w' → K a' w') → if Region.wanted oj (yielded l.toArray a.tmps) = true then Oper.wp P oj a w K Q else K (a.put oj.dst undef) w) :
  wpUntil P md l.toArray Q S T (fuel + 1) listed a w := by
 refine ⟨fun h0 => (by rw [hr] at h0; cases h0), fun k hk => ?_⟩
 rw [hr] at hk
 have : k = i ∨ k = j := by simpa using hk
 rcases this with rfl | rfl
 ·exact wpOp_step (drop_at hd) (fun K hK => h K (fun a w h1 h2 => hK a w ⟨h1, h2⟩))
 ·exact wpOp_step (drop_at hd') (fun K hK => h' K (fun a w h1 h2 => hK a w ⟨h1, h2⟩))
theorem until_done {listed : Array Bool} {a : Act} {w : World} (hr : Region.ready md ops listed = []) (h : Q .normal a w) : ∀ fuel, wpUntil P md ops Q S T fuel listed a w
 | 0 => ⟨hr, h⟩
 | _ + 1 => ⟨fun _ => h, by rw [hr]; simp⟩
theorem wp_region_until {id : Nat} {l : List Oper} {a : Act} {w : World} (S : World → Prop) (T : Nat → Bool) (n : Nat) (hn : l.length = n) (hm : P.follows .mixedOrders = true)
  (h : wpUntil P .any l.toArray Q S T n (Array.replicate n false) a w.drew) : (Code.region id l.toArray true).wp P Q a w := by
 subst hn
 exact wp_region_any hm (wpAny_of_until _ _ _ _ (by simpa using h))
end
end Go.Proofs.YtgbepickfhbknaaGreatDoor
