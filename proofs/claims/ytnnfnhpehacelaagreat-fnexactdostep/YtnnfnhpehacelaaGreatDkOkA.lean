/-
  When a disk is right, as plain data.
-/
import Derived.Test.YtnnfnhpehacelaaGreatDkFind
namespace Go.Proofs.YtnnfnhpehacelaaGreat
open Go.RowKit Go.PlainAid

/-- The inode at a place is right. -/
def nodGood (d : Dsk) (i : Nat) : Bool :=
  (decide (1 ≤ (d.nods.getD i default).id) && decide ((d.nods.getD i default).id ≤ d.next - 1)) && (decide (0 ≤ (d.nods.getD i default).sure) && decide ((d.nods.getD i default).sure ≤ ((d.nods.getD i default).data.size : Int)))
    && !(decide (0 < i) && decide ((d.nods.getD i default).id ≤ (d.nods.getD (i - 1) default).id)) && (linked d.dir (d.nods.getD i default).id || made d.movs (d.nods.getD i default).id)
/-- The safe name at a place is right. -/
def lnkGood (d : Dsk) (i : Nat) : Bool :=
  nameOk (d.dir.getD i default).name && !(decide (0 < i) && !ahead (d.dir.getD (i - 1) default).name (d.dir.getD i default).name) && (nodAt d.nods (d.dir.getD i default).id).isSome && !linked (d.dir.take i) (d.dir.getD i default).id
/-- The move at a place is right, and fits. -/
def movGood (d : Dsk) (i : Nat) : Bool :=
  !(decide ((d.movs.getD i default).kind = 1) && ((nodAt d.nods (d.movs.getD i default).id).isNone || linked d.dir (d.movs.getD i default).id || made (d.movs.take i) (d.movs.getD i default).id))
    && (apply (names d.dir (d.movs.take i)) (d.movs.getD i default)).isSome
def sizeOk (d : Dsk) : Bool := (decide (0 ≤ d.room) && decide (d.room ≤ 1048576)) && (decide (1 ≤ d.next) && decide (d.next ≤ 1000000)) && decide (d.nods.length ≤ 10) && decide (d.movs.length ≤ 20) && decide (d.dir.length ≤ 10) && decide ((bytesOf d.nods : Int) ≤ d.room)
/-- A right disk. -/
def diskOk (d : Dsk) : Bool := sizeOk d && (List.range d.nods.length).all (nodGood d) && (List.range d.dir.length).all (lnkGood d) && (List.range d.movs.length).all (movGood d)

theorem range_no {n k : Nat} {p : Nat → Bool} (hk : k < n) (h : p k = false) : (List.range n).all p = false := by
  rw [List.all_eq_false]
  exact ⟨k, List.mem_range.2 hk, by rw [h]; exact Bool.false_ne_true⟩
theorem range_yes {n : Nat} {p : Nat → Bool} (h : ∀ j, j < n → p j = true) : (List.range n).all p = true := by
  rw [List.all_eq_true]
  exact fun j hj => h j (List.mem_range.1 hj)
theorem diskOk_size {d : Dsk} (h : sizeOk d = false) : diskOk d = false := by unfold diskOk; rw [h]; rfl
theorem diskOk_nod {d : Dsk} {k : Nat} (hk : k < d.nods.length) (h : nodGood d k = false) : diskOk d = false := by
  unfold diskOk
  rw [range_no hk h, Bool.and_false]
  rfl
theorem diskOk_lnk {d : Dsk} {k : Nat} (hk : k < d.dir.length) (h : lnkGood d k = false) : diskOk d = false := by
  unfold diskOk
  rw [range_no hk h, Bool.and_false]
  rfl
theorem diskOk_mov {d : Dsk} {k : Nat} (hk : k < d.movs.length) (h : movGood d k = false) : diskOk d = false := by
  unfold diskOk
  rw [range_no hk h, Bool.and_false]
theorem diskOk_yes {d : Dsk} (h0 : sizeOk d = true) (h1 : ∀ j, j < d.nods.length → nodGood d j = true) (h2 : ∀ j, j < d.dir.length → lnkGood d j = true) (h3 : ∀ j, j < d.movs.length → movGood d j = true) : diskOk d = true := by
  unfold diskOk
  rw [h0, range_yes h1, range_yes h2, range_yes h3]
  rfl
/-- What a right disk is told of. -/
structure Right (d : Dsk) : Prop where
  r0 : 0 ≤ d.room
  r1 : d.room ≤ 1048576
  x0 : 1 ≤ d.next
  x1 : d.next ≤ 1000000
  n : d.nods.length ≤ 10
  m : d.movs.length ≤ 20
  l : d.dir.length ≤ 10
  b : (bytesOf d.nods : Int) ≤ d.room
theorem sizeOk_iff (d : Dsk) : sizeOk d = true ↔ Right d := by
  unfold sizeOk
  simp only [Bool.and_eq_true, decide_eq_true_eq]
  constructor
  · rintro ⟨⟨⟨⟨⟨⟨a, b⟩, c, e⟩, f⟩, g⟩, h⟩, i⟩
    exact ⟨a, b, c, e, f, g, h, i⟩
  · rintro ⟨a, b, c, e, f, g, h, i⟩
    exact ⟨⟨⟨⟨⟨⟨a, b⟩, c, e⟩, f⟩, g⟩, h⟩, i⟩
theorem sizeOk_no {d : Dsk} (h : ¬ Right d) : sizeOk d = false := by
  cases e : sizeOk d with
  | false => rfl
  | true => exact absurd ((sizeOk_iff d).1 e) h
theorem diskOk_right {d : Dsk} (h : diskOk d = true) : Right d := by
  refine (sizeOk_iff d).1 ?_
  cases e : sizeOk d with
  | true => rfl
  | false => rw [diskOk_size e] at h; cases h
end Go.Proofs.YtnnfnhpehacelaaGreat
