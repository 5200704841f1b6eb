/- DkOkA DkOk -/
import Derived.Test.YtdimaoloapbeoaaGreatDoorQv4
import Derived.Test.YtdimaoloapbeoaaGreatDoorRows
import Derived.Deep.RegionHeld3
import Derived.Deep.QuietTactic
import Derived.BigQuiet
namespace Go.Proofs.YtdimaoloapbeoaaGreatDoor
open Go.RowKit Go.PlainAid
def nodGood (d : Dsk) (i : Nat) : Bool :=
 (decide (1 ≤ (d.nods.getD i default).id) && decide ((d.nods.getD i default).id ≤ d.next - 1)) && (decide (0 ≤ (d.nods.getD i default).sure) && decide ((d.nods.getD i default).sure ≤ ((d.nods.getD i default).data.size : Int)))
  && !(decide (0 < i) && decide ((d.nods.getD i default).id ≤ (d.nods.getD (i - 1) default).id)) && (linked d.dir (d.nods.getD i default).id || made d.movs (d.nods.getD i default).id)
def lnkGood (d : Dsk) (i : Nat) : Bool :=
 nameOk (d.dir.getD i default).name && !(decide (0 < i) && !ahead (d.dir.getD (i - 1) default).name (d.dir.getD i default).name) && (nodAt d.nods (d.dir.getD i default).id).isSome && !linked (d.dir.take i) (d.dir.getD i default).id
def movGood (d : Dsk) (i : Nat) : Bool :=
 !(decide ((d.movs.getD i default).kind = 1) && ((nodAt d.nods (d.movs.getD i default).id).isNone || linked d.dir (d.movs.getD i default).id || made (d.movs.take i) (d.movs.getD i default).id))
  && (apply (names d.dir (d.movs.take i)) (d.movs.getD i default)).isSome
def sizeOk (d : Dsk) : Bool := (decide (0 ≤ d.room) && decide (d.room ≤ 1048576)) && (decide (1 ≤ d.next) && decide (d.next ≤ 1000000)) && decide (d.nods.length ≤ 10) && decide (d.movs.length ≤ 20) && decide (d.dir.length ≤ 10) && decide ((bytesOf d.nods : Int) ≤ d.room)
def diskOk (d : Dsk) : Bool := sizeOk d && (List.range d.nods.length).all (nodGood d) && (List.range d.dir.length).all (lnkGood d) && (List.range d.movs.length).all (movGood d)
theorem range_no {n k : Nat} {p : Nat → Bool} (hk : k < n) (h : p k = false) : (List.range n).all p = false := by
 rw [List.all_eq_false]
 exact ⟨k, List.mem_range.2 hk, by rw [h]; exact Bool.false_ne_true⟩
theorem range_yes {n : Nat} {p : Nat → Bool} (h : ∀ j, j < n → p j = true) : (List.range n).all p = true := by
 rw [List.all_eq_true]
 exact fun j hj => h j (List.mem_range.1 hj)
theorem diskOk_size {d : Dsk} (h : sizeOk d = false) : diskOk d = false := by unfold diskOk; rw [h]; rfl
theorem diskOk_nod {d : Dsk} {k : Nat} (hk : k < d.nods.length) (h : nodGood d k = false) : diskOk d = false := by
 unfold diskOk
 rw [range_no hk h, Bool.and_false]
 rfl
theorem diskOk_lnk {d : Dsk} {k : Nat} (hk : k < d.dir.length) (h : lnkGood d k = false) : diskOk d = false := by
 unfold diskOk
 rw [range_no hk h, Bool.and_false]
 rfl
theorem diskOk_mov {d : Dsk} {k : Nat} (hk : k < d.movs.length) (h : movGood d k = false) : diskOk d = false := by
 unfold diskOk
 rw [range_no hk h, Bool.and_false]
theorem diskOk_yes {d : Dsk} (h0 : sizeOk d = true) (h1 : ∀ j, j < d.nods.length → nodGood d j = true) (h2 : ∀ j, j < d.dir.length → lnkGood d j = true) (h3 : ∀ j, j < d.movs.length → movGood d j = true) : diskOk d = true := by
 unfold diskOk
 rw [h0, range_yes h1, range_yes h2, range_yes h3]
 rfl
structure Right (d : Dsk) : Prop where
 r0 : 0 ≤ d.room
 r1 : d.room ≤ 1048576
 x0 : 1 ≤ d.next
 x1 : d.next ≤ 1000000
 n : d.nods.length ≤ 10
 m : d.movs.length ≤ 20
 l : d.dir.length ≤ 10
 b : (bytesOf d.nods : Int) ≤ d.room
theorem sizeOk_iff (d : Dsk) : sizeOk d = true ↔ Right d := by
 unfold sizeOk
 simp only [Bool.and_eq_true, decide_eq_true_eq]
 constructor
 ·rintro ⟨⟨⟨⟨⟨⟨a, b⟩, c, e⟩, f⟩, g⟩, h⟩, i⟩
  exact ⟨a, b, c, e, f, g, h, i⟩
 ·rintro ⟨a, b, c, e, f, g, h, i⟩
  exact ⟨⟨⟨⟨⟨⟨a, b⟩, c, e⟩, f⟩, g⟩, h⟩, i⟩
theorem sizeOk_no {d : Dsk} (h : ¬ Right d) : sizeOk d = false := by
 cases e : sizeOk d with
 | false => rfl
 | true => exact absurd ((sizeOk_iff d).1 e) h
end Go.Proofs.YtdimaoloapbeoaaGreatDoor
namespace Go.Proofs.YtdimaoloapbeoaaGreatDoor
open Go.ChangeShapes Go.WideShapes Go.ChangeAt Go.RowKit Go.PlainAid
set_option linter.unusedVariables false
set_option maxRecDepth 20000 in
set_option maxHeartbeats 4000000 in
theorem okHead (d : Dsk) (v : Value) (w : World) (B : Nat) (hv : DiskV w B v d) (l1 : d.nods.length ≤ 1048576) (l2 : d.dir.length ≤ 1048576) (l3 : d.movs.length ≤ 1048576) (hs : bytesOf d.nods ≤ 4194304) (hB : B ≤ w.heap.size) (hR : ¬ Right d) :
  Calls Tryz.prog 16 #[v] w fun e w' => e = .returned (.bool (diskOk d)) ∧ Below w.heap.size w w' := by
 have HY : Hid (diskOk d = false) := diskOk_size (sizeOk_no hR)
 have HV : Hid (DiskV w B v d) := hv
 have HR : Hid (¬ Right d) := hR
 have HB : Hid (B ≤ w.heap.size) := hB
 obtain ⟨v1, v2, v3, rfl, h1, h2, h3⟩ := hv
 obtain ⟨A1, c1, rfl, _⟩ := nod_look h1
 obtain ⟨A2, c2, rfl, _⟩ := lnk_look h2
 obtain ⟨A3, c3, rfl, _⟩ := mov_look h3
 have cR := fun wx => inB d.room 0 1048576 wx
 have cX := fun wx => inB d.next 1 1000000 wx
 have cB := fun wx hx hb => bytesV d (.agg #[.int .i64 d.room, .int .i64 d.next, .slice A1 d.nods.length c1, .slice A2 d.dir.length c2, .slice A3 d.movs.length c3]) wx B hx (by omega) hs hb
 have q1 : (d.nods.length : Int) ≤ 1048576 := by omega
 have q2 : (d.dir.length : Int) ≤ 1048576 := by omega
 have q3 : (d.movs.length : Int) ≤ 1048576 := by omega
 have q0 : (bytesOf d.nods : Int) ≤ 4194304 := by omega
 rename_i z1 z2 z3
 clear h1 h2 h3 hB hR l1 l2 l3 hs z1 z2 z3
 rw [HY.out]
 have Rr : Hid (¬ (0 ≤ d.room ∧ d.room ≤ 1048576) → (decide (0 ≤ d.room) && decide (d.room ≤ 1048576)) = false) := fun h => by
  by_cases h1 : 0 ≤ d.room
  ·rw [decide_eq_false (fun h2 => h ⟨h1, h2⟩), Bool.and_false]
  ·rw [decide_eq_false h1]; rfl
 have Rx : Hid (¬ (1 ≤ d.next ∧ d.next ≤ 1000000) → (decide (1 ≤ d.next) && decide (d.next ≤ 1000000)) = false) := fun h => by
  by_cases h1 : 1 ≤ d.next
  ·rw [decide_eq_false (fun h2 => h ⟨h1, h2⟩), Bool.and_false]
  ·rw [decide_eq_false h1]; rfl
 by_cases r : 0 ≤ d.room ∧ d.room ≤ 1048576
 ·rw [decide_eq_true r.1, decide_eq_true r.2] at cR
  by_cases x : 1 ≤ d.next ∧ d.next ≤ 1000000
  ·rw [decide_eq_true x.1, decide_eq_true x.2] at cX
   by_cases n1 : (10 : Int) < (d.nods.length : Int)
   ·clear cB
    go_enter Tryz.func16, Tryz.ntmps16
    go_wp2_with (first
     | (go_at_call_of 43 (Value.int .i64 d.room); refine (cR _).mono ?_; rintro e w1 ⟨rfl, rfl⟩)
     | (go_at_call_of 43 (Value.int .i64 d.next); refine (cX _).mono ?_; rintro e w1 ⟨rfl, rfl⟩))
    go_ret
    exact ⟨rfl, (Below.refl _ _).alloc (Nat.le_refl _) _⟩
   ·have n1' : decide ((10 : Int) < (d.nods.length : Int)) = false := decide_eq_false n1
    by_cases n2 : (20 : Int) < (d.movs.length : Int)
    ·clear cB
     go_enter Tryz.func16, Tryz.ntmps16
     go_wp2_with (first
      | (go_at_call_of 43 (Value.int .i64 d.room); refine (cR _).mono ?_; rintro e w1 ⟨rfl, rfl⟩)
      | (go_at_call_of 43 (Value.int .i64 d.next); refine (cX _).mono ?_; rintro e w1 ⟨rfl, rfl⟩))
     go_ret
     exact ⟨rfl, (Below.refl _ _).alloc (Nat.le_refl _) _⟩
    ·have n2' : decide ((20 : Int) < (d.movs.length : Int)) = false := decide_eq_false n2
     by_cases n3 : (10 : Int) < (d.dir.length : Int)
     ·clear cB
      go_enter Tryz.func16, Tryz.ntmps16
      go_wp2_with (first
       | (go_at_call_of 43 (Value.int .i64 d.room); refine (cR _).mono ?_; rintro e w1 ⟨rfl, rfl⟩)
       | (go_at_call_of 43 (Value.int .i64 d.next); refine (cX _).mono ?_; rintro e w1 ⟨rfl, rfl⟩))
      go_ret
      exact ⟨rfl, (Below.refl _ _).alloc (Nat.le_refl _) _⟩
     ·have n3' : decide ((10 : Int) < (d.dir.length : Int)) = false := decide_eq_false n3
      have n4 : d.room < (bytesOf d.nods : Int) := by
       rcases Int.lt_or_le d.room (bytesOf d.nods : Int) with h | h
       ·exact h
       ·exact absurd ⟨r.1, r.2, x.1, x.2, by omega, by omega, by omega, h⟩ HR.out
      go_enter Tryz.func16, Tryz.ntmps16
      go_wp2_with (first
       | (go_at_call_of 43 (Value.int .i64 d.room); refine (cR _).mono ?_; rintro e w1 ⟨rfl, rfl⟩)
       | (go_at_call_of 43 (Value.int .i64 d.next); refine (cX _).mono ?_; rintro e w1 ⟨rfl, rfl⟩))
      have hb0 : Below w.heap.size w (w.alloc (.cells #[.int .i64 d.room, .int .i64 d.next, .slice A1 d.nods.length c1, .slice A2 d.dir.length c2, .slice A3 d.movs.length c3] 41)) := (Below.refl _ _).alloc (Nat.le_refl _) _
      have kA := Blk.new w #[.int .i64 d.room, .int .i64 d.next, .slice A1 d.nods.length c1, .slice A2 d.dir.length c2, .slice A3 d.movs.length c3] 41
      generalize w.alloc (.cells #[.int .i64 d.room, .int .i64 d.next, .slice A1 d.nods.length c1, .slice A2 d.dir.length c2, .slice A3 d.movs.length c3] 41) = W at *
      have B0 : Hid (Below w.heap.size w W) := hb0
      have K0 : Hid (Blk W w.heap.size #[.int .i64 d.room, .int .i64 d.next, .slice A1 d.nods.length c1, .slice A2 d.dir.length c2, .slice A3 d.movs.length c3] 41) := kA
      have S0 : Hid (W.drew.cell? ⟨w.heap.size, 0, none⟩ = some (.int .i64 d.room) ∧ W.drew.cell? ⟨w.heap.size, 1, none⟩ = some (.int .i64 d.next) ∧ W.drew.cell? ⟨w.heap.size, 2, none⟩ = some (.slice A1 d.nods.length c1) ∧ W.drew.cell? ⟨w.heap.size, 3, none⟩ = some (.slice A2 d.dir.length c2) ∧ W.drew.cell? ⟨w.heap.size, 4, none⟩ = some (.slice A3 d.movs.length c3)) := ⟨kA.cell 0 _ rfl, kA.cell 1 _ rfl, kA.cell 2 _ rfl, kA.cell 3 _ rfl, kA.cell 4 _ rfl⟩
      have BD : Below w.heap.size w W.drew := hb0.trans ((below_drewN' W 1).mono hb0.size)
      have HW : Hid (w.heap.size < W.heap.size) := kA.lt
      have HZ : Hid (w.heap.size ≤ W.heap.size) := hb0.size
      have cI := cB W.drew (HV.out.on (BD.mono HB.out)) (Nat.le_trans HB.out BD.size)
      clear hb0 kA BD cB cR cX
      go_region_held3 (fun w' => w'.cell? ⟨w.heap.size, 0, none⟩ = some (.int .i64 d.room) ∧ w'.cell? ⟨w.heap.size, 1, none⟩ = some (.int .i64 d.next) ∧ w'.cell? ⟨w.heap.size, 2, none⟩ = some (.slice A1 d.nods.length c1) ∧ w'.cell? ⟨w.heap.size, 3, none⟩ = some (.slice A2 d.dir.length c2) ∧ w'.cell? ⟨w.heap.size, 4, none⟩ = some (.slice A3 d.movs.length c3)) (first | exact S2.out | exact S0.out)
       ((go_at_call 44; refine cI.mono ?_; rintro e w3 ⟨rfl, hb⟩; have S2 : Hid (w3.cell? ⟨w.heap.size, 0, none⟩ = some (.int .i64 d.room) ∧ w3.cell? ⟨w.heap.size, 1, none⟩ = some (.int .i64 d.next) ∧ w3.cell? ⟨w.heap.size, 2, none⟩ = some (.slice A1 d.nods.length c1) ∧ w3.cell? ⟨w.heap.size, 3, none⟩ = some (.slice A2 d.dir.length c2) ∧ w3.cell? ⟨w.heap.size, 4, none⟩ = some (.slice A3 d.movs.length c3)) := ⟨(hb.cell (p := ⟨w.heap.size, 0, none⟩) HW.out).trans S0.out.1, (hb.cell (p := ⟨w.heap.size, 1, none⟩) HW.out).trans S0.out.2.1, (hb.cell (p := ⟨w.heap.size, 2, none⟩) HW.out).trans S0.out.2.2.1, (hb.cell (p := ⟨w.heap.size, 3, none⟩) HW.out).trans S0.out.2.2.2.1, (hb.cell (p := ⟨w.heap.size, 4, none⟩) HW.out).trans S0.out.2.2.2.2⟩))
      all_goals go_wp2_with fail
      all_goals go_ret
      all_goals exact ⟨rfl, B0.out.trans (((below_drewN' W 1).mono HZ.out).trans (hb.mono HZ.out))⟩
  ·rw [Rx.out x] at cX
   clear cB
   go_enter Tryz.func16, Tryz.ntmps16
   go_wp2_with (first
    | (go_at_call_of 43 (Value.int .i64 d.room); refine (cR _).mono ?_; rintro e w1 ⟨rfl, rfl⟩)
    | (go_at_call_of 43 (Value.int .i64 d.next); refine (cX _).mono ?_; rintro e w1 ⟨rfl, rfl⟩))
   go_ret
   exact ⟨rfl, (Below.refl _ _).alloc (Nat.le_refl _) _⟩
 ·rw [Rr.out r] at cR
  clear cB cX
  go_enter Tryz.func16, Tryz.ntmps16
  go_wp2_with (go_at_call_of 43 (Value.int .i64 d.room); refine (cR _).mono ?_; rintro e w1 ⟨rfl, rfl⟩)
  go_ret
  exact ⟨rfl, (Below.refl _ _).alloc (Nat.le_refl _) _⟩
end Go.Proofs.YtdimaoloapbeoaaGreatDoor
