/- RcImpl RcOf Fix NumD Num2 Clone ReadImpl -/
import Derived.Test.YtfmannphobjgpaaRows
import Derived.Test.YtfmannphobjgpaaQc0
import Derived.Deep.RegionWith
import Derived.Handy
import Derived.WalkKit
import Derived.ProofKit
import Derived.OpenShut
import Derived.Below
import Derived.WalkLawsBesides
import Derived.Outline
import Derived.Deep.OwnRows
import Derived.WalkSpells
import Derived.WalkMore
import Derived.Deep.RegionHeld3
import Derived.Deep.RegionLaw
import Derived.Deep.DrawnRows
import Derived.WalkSmall
import Derived.Shelf.Pu.Clone
import Derived.LoopN
namespace Go.Proofs.Ytfmannphobjgpaa
open Go.ChangeShapes Go.WideShapes Go.ChangeAt Go.RowKit Go.PlainAid
set_option linter.unusedVariables false
def bnd (k t i v n : Int) : Bool := decide ((k = 1 ∧ 0 ≤ t ∧ t ≤ 100000 ∧ -1 ≤ v ∧ v ≤ 4) ∨ (k = 4 ∧ i = 0 ∧ t = 0) ∨ ((k = 4 ∧ i ≠ 0 ∨ k = 2) ∧ 1 ≤ t ∧ t ≤ 100000 ∧ n ≤ 900 ∧ 1 ≤ i ∧ i ≤ 100000) ∨ (k = 3 ∧ 1 ≤ i ∧ i ≤ 100000))
def kindV (r : Rcd) : Value :=
 if r.kind = 1 then .iface 48 (.agg #[.int .i64 r.term, .int .i64 r.vote])
 else if r.kind = 2 then .iface 74 (.agg #[.int .i64 r.index, .int .i64 r.term, .string r.data])
 else if r.kind = 3 then .iface 51 (.agg #[.int .i64 r.index])
 else .iface 90 (.agg #[.int .i64 r.index, .int .i64 r.term])
set_option maxHeartbeats 4000000 in
theorem inBoundsV (k t i v : Int) (d : ByteArray) (w : World) (hd : d.size ≤ maxLen) : Calls Try.prog 45 #[.agg #[.int .i64 k, .int .i64 t, .int .i64 i, .int .i64 v, .string d]] w fun e w' => e = .returned (.bool (bnd k t i v d.size)) ∧ Below w.heap.size w w' := by
 have HB : Hid (Below w.heap.size w (w.alloc (.cells #[.int .i64 k, .int .i64 t, .int .i64 i, .int .i64 v, .string d] 35))) := (Below.refl _ _).alloc (Nat.le_refl _) _
 have hdi : (d.size : Int) ≤ 9223372036854775807 := by unfold maxLen at hd; omega
 clear hd
 by_cases k1 : k = 1
 ·subst k1
  by_cases h4 : 0 ≤ t
  ·by_cases h3 : t ≤ 100000
   ·by_cases h2 : -1 ≤ v
    ·by_cases h1 : v < 5
     ·go_enter Try.func45, Try.ntmps45
      go_wp2
      go_ret
      exact ⟨by first | (rw [show bnd _ _ _ _ _ = true from decide_eq_true (by omega)]; rfl) | (rw [show bnd _ _ _ _ _ = false from decide_eq_false (by omega)]; rfl), HB.out⟩
     ·go_enter Try.func45, Try.ntmps45
      go_wp2
      go_ret
      exact ⟨by first | (rw [show bnd _ _ _ _ _ = true from decide_eq_true (by omega)]; rfl) | (rw [show bnd _ _ _ _ _ = false from decide_eq_false (by omega)]; rfl), HB.out⟩
    ·go_enter Try.func45, Try.ntmps45
     go_wp2
     go_ret
     exact ⟨by first | (rw [show bnd _ _ _ _ _ = true from decide_eq_true (by omega)]; rfl) | (rw [show bnd _ _ _ _ _ = false from decide_eq_false (by omega)]; rfl), HB.out⟩
   ·go_enter Try.func45, Try.ntmps45
    go_wp2
    go_ret
    exact ⟨by first | (rw [show bnd _ _ _ _ _ = true from decide_eq_true (by omega)]; rfl) | (rw [show bnd _ _ _ _ _ = false from decide_eq_false (by omega)]; rfl), HB.out⟩
  ·go_enter Try.func45, Try.ntmps45
   go_wp2
   go_ret
   exact ⟨by first | (rw [show bnd _ _ _ _ _ = true from decide_eq_true (by omega)]; rfl) | (rw [show bnd _ _ _ _ _ = false from decide_eq_false (by omega)]; rfl), HB.out⟩
 by_cases k4 : k = 4
 ·subst k4
  by_cases i0 : i = 0
  ·subst i0
   by_cases t0 : t = 0
   ·subst t0
    go_enter Try.func45, Try.ntmps45
    go_wp2
    go_ret
    exact ⟨by first | (rw [show bnd _ _ _ _ _ = true from decide_eq_true (by omega)]; rfl) | (rw [show bnd _ _ _ _ _ = false from decide_eq_false (by omega)]; rfl), HB.out⟩
   ·have zt : (t == 0) = false := by simpa using t0
    go_enter Try.func45, Try.ntmps45
    go_wp2
    go_ret
    exact ⟨by first | (rw [show bnd _ _ _ _ _ = true from decide_eq_true (by omega)]; rfl) | (rw [show bnd _ _ _ _ _ = false from decide_eq_false (by omega)]; rfl), HB.out⟩
  ·have zi : (i == 0) = false := by simpa using i0
   by_cases g3 : t < 1
   ·go_enter Try.func45, Try.ntmps45
    go_wp2
    go_ret
    exact ⟨by first | (rw [show bnd _ _ _ _ _ = true from decide_eq_true (by omega)]; rfl) | (rw [show bnd _ _ _ _ _ = false from decide_eq_false (by omega)]; rfl), HB.out⟩
   ·by_cases g2 : 100000 < t
    ·go_enter Try.func45, Try.ntmps45
     go_wp2
     go_ret
     exact ⟨by first | (rw [show bnd _ _ _ _ _ = true from decide_eq_true (by omega)]; rfl) | (rw [show bnd _ _ _ _ _ = false from decide_eq_false (by omega)]; rfl), HB.out⟩
    ·by_cases g1 : 900 < (d.size : Int)
     ·go_enter Try.func45, Try.ntmps45
      go_wp2
      go_ret
      exact ⟨by first | (rw [show bnd _ _ _ _ _ = true from decide_eq_true (by omega)]; rfl) | (rw [show bnd _ _ _ _ _ = false from decide_eq_false (by omega)]; rfl), HB.out⟩
     ·by_cases h2 : 1 ≤ i
      ·by_cases h1 : i ≤ 100000
       ·go_enter Try.func45, Try.ntmps45
        go_wp2
        go_ret
        exact ⟨by first | (rw [show bnd _ _ _ _ _ = true from decide_eq_true (by omega)]; rfl) | (rw [show bnd _ _ _ _ _ = false from decide_eq_false (by omega)]; rfl), HB.out⟩
       ·go_enter Try.func45, Try.ntmps45
        go_wp2
        go_ret
        exact ⟨by first | (rw [show bnd _ _ _ _ _ = true from decide_eq_true (by omega)]; rfl) | (rw [show bnd _ _ _ _ _ = false from decide_eq_false (by omega)]; rfl), HB.out⟩
      ·go_enter Try.func45, Try.ntmps45
       go_wp2
       go_ret
       exact ⟨by first | (rw [show bnd _ _ _ _ _ = true from decide_eq_true (by omega)]; rfl) | (rw [show bnd _ _ _ _ _ = false from decide_eq_false (by omega)]; rfl), HB.out⟩
 by_cases k2 : k = 2
 ·subst k2
  by_cases g3 : t < 1
  ·go_enter Try.func45, Try.ntmps45
   go_wp2
   go_ret
   exact ⟨by first | (rw [show bnd _ _ _ _ _ = true from decide_eq_true (by omega)]; rfl) | (rw [show bnd _ _ _ _ _ = false from decide_eq_false (by omega)]; rfl), HB.out⟩
  ·by_cases g2 : 100000 < t
   ·go_enter Try.func45, Try.ntmps45
    go_wp2
    go_ret
    exact ⟨by first | (rw [show bnd _ _ _ _ _ = true from decide_eq_true (by omega)]; rfl) | (rw [show bnd _ _ _ _ _ = false from decide_eq_false (by omega)]; rfl), HB.out⟩
   ·by_cases g1 : 900 < (d.size : Int)
    ·go_enter Try.func45, Try.ntmps45
     go_wp2
     go_ret
     exact ⟨by first | (rw [show bnd _ _ _ _ _ = true from decide_eq_true (by omega)]; rfl) | (rw [show bnd _ _ _ _ _ = false from decide_eq_false (by omega)]; rfl), HB.out⟩
    ·by_cases h2 : 1 ≤ i
     ·by_cases h1 : i ≤ 100000
      ·go_enter Try.func45, Try.ntmps45
       go_wp2
       go_ret
       exact ⟨by first | (rw [show bnd _ _ _ _ _ = true from decide_eq_true (by omega)]; rfl) | (rw [show bnd _ _ _ _ _ = false from decide_eq_false (by omega)]; rfl), HB.out⟩
      ·go_enter Try.func45, Try.ntmps45
       go_wp2
       go_ret
       exact ⟨by first | (rw [show bnd _ _ _ _ _ = true from decide_eq_true (by omega)]; rfl) | (rw [show bnd _ _ _ _ _ = false from decide_eq_false (by omega)]; rfl), HB.out⟩
     ·go_enter Try.func45, Try.ntmps45
      go_wp2
      go_ret
      exact ⟨by first | (rw [show bnd _ _ _ _ _ = true from decide_eq_true (by omega)]; rfl) | (rw [show bnd _ _ _ _ _ = false from decide_eq_false (by omega)]; rfl), HB.out⟩
 by_cases k3 : k = 3
 ·subst k3
  by_cases h2 : 1 ≤ i
  ·by_cases h1 : i ≤ 100000
   ·go_enter Try.func45, Try.ntmps45
    go_wp2
    go_ret
    exact ⟨by first | (rw [show bnd _ _ _ _ _ = true from decide_eq_true (by omega)]; rfl) | (rw [show bnd _ _ _ _ _ = false from decide_eq_false (by omega)]; rfl), HB.out⟩
   ·go_enter Try.func45, Try.ntmps45
    go_wp2
    go_ret
    exact ⟨by first | (rw [show bnd _ _ _ _ _ = true from decide_eq_true (by omega)]; rfl) | (rw [show bnd _ _ _ _ _ = false from decide_eq_false (by omega)]; rfl), HB.out⟩
  ·go_enter Try.func45, Try.ntmps45
   go_wp2
   go_ret
   exact ⟨by first | (rw [show bnd _ _ _ _ _ = true from decide_eq_true (by omega)]; rfl) | (rw [show bnd _ _ _ _ _ = false from decide_eq_false (by omega)]; rfl), HB.out⟩
 have y1 : (k == 1) = false := by simpa using k1
 have y2 : (k == 2) = false := by simpa using k2
 have y3 : (k == 3) = false := by simpa using k3
 have y4 : (k == 4) = false := by simpa using k4
 go_enter Try.func45, Try.ntmps45
 go_wp2
 go_ret
 exact ⟨by first | (rw [show bnd _ _ _ _ _ = true from decide_eq_true (by omega)]; rfl) | (rw [show bnd _ _ _ _ _ = false from decide_eq_false (by omega)]; rfl), HB.out⟩
set_option maxHeartbeats 1000000 in
theorem kindOfV (k t i v : Int) (d : ByteArray) (w : World) : Calls Try.prog 46 #[.agg #[.int .i64 k, .int .i64 t, .int .i64 i, .int .i64 v, .string d]] w fun e w' => e = .returned (kindV ⟨k, t, i, v, d⟩) ∧ Below w.heap.size w w' := by
 have HB : Hid (Below w.heap.size w (w.alloc (.cells #[.int .i64 k, .int .i64 t, .int .i64 i, .int .i64 v, .string d] 35))) := (Below.refl _ _).alloc (Nat.le_refl _) _
 by_cases k1 : k = 1
 ·subst k1
  go_enter Try.func46, Try.ntmps46
  go_wp2
  go_ret
  exact ⟨rfl, HB.out⟩
 by_cases k2 : k = 2
 ·subst k2
  go_enter Try.func46, Try.ntmps46
  go_wp2
  go_ret
  exact ⟨rfl, HB.out⟩
 by_cases k3 : k = 3
 ·subst k3
  go_enter Try.func46, Try.ntmps46
  go_wp2
  go_ret
  exact ⟨rfl, HB.out⟩
 have y1 : (k == 1) = false := by simpa using k1
 have y2 : (k == 2) = false := by simpa using k2
 have y3 : (k == 3) = false := by simpa using k3
 have HE : Hid (kindV ⟨k, t, i, v, d⟩ = .iface 90 (.agg #[.int .i64 i, .int .i64 t])) := by unfold Hid kindV; rw [if_neg k1, if_neg k2, if_neg k3]
 clear k1 k2 k3
 go_enter Try.func46, Try.ntmps46
 go_wp2
 go_ret
 exact ⟨by rw [HE.out]; rfl, HB.out⟩
theorem below_alloc2' (w : World) (a b : Obj) : Below w.heap.size w ((w.alloc a).alloc b) := ((Below.refl _ w).alloc (Nat.le_refl _) a).alloc (by simp) b
set_option maxHeartbeats 400000 in
theorem hardRec (t v : Int) (w : World) : Calls Try.prog 67 #[.agg #[.int .i64 t, .int .i64 v]] w fun e w' => e = .returned (.agg #[.int .i64 1, .int .i64 t, .int .i64 0, .int .i64 v, .string ⟨#[]⟩]) ∧ Below w.heap.size w w' := by
 go_enter Try.func67, Try.ntmps67
 go_wp2
 exact bodyPost_ret (v := .agg #[.int .i64 1, .int .i64 t, .int .i64 0, .int .i64 v, .string ⟨#[]⟩]) (by simp [results, go_sem]) rfl ⟨rfl, below_alloc2' _ _ _⟩
set_option maxHeartbeats 400000 in
theorem entryRec (i t : Int) (d : ByteArray) (w : World) : Calls Try.prog 69 #[.agg #[.int .i64 i, .int .i64 t, .string d]] w fun e w' => e = .returned (.agg #[.int .i64 2, .int .i64 t, .int .i64 i, .int .i64 0, .string d]) ∧ Below w.heap.size w w' := by
 go_enter Try.func69, Try.ntmps69
 go_wp2
 exact bodyPost_ret (v := .agg #[.int .i64 2, .int .i64 t, .int .i64 i, .int .i64 0, .string d]) (by simp [results, go_sem]) rfl ⟨rfl, below_alloc2' _ _ _⟩
set_option maxHeartbeats 400000 in
theorem cutRec (i : Int) (w : World) : Calls Try.prog 68 #[.agg #[.int .i64 i]] w fun e w' => e = .returned (.agg #[.int .i64 3, .int .i64 0, .int .i64 i, .int .i64 0, .string ⟨#[]⟩]) ∧ Below w.heap.size w w' := by
 go_enter Try.func68, Try.ntmps68
 go_wp2
 exact bodyPost_ret (v := .agg #[.int .i64 3, .int .i64 0, .int .i64 i, .int .i64 0, .string ⟨#[]⟩]) (by simp [results, go_sem]) rfl ⟨rfl, below_alloc2' _ _ _⟩
set_option maxHeartbeats 400000 in
theorem baseRec (i t : Int) (w : World) : Calls Try.prog 70 #[.agg #[.int .i64 i, .int .i64 t]] w fun e w' => e = .returned (.agg #[.int .i64 4, .int .i64 t, .int .i64 i, .int .i64 0, .string ⟨#[]⟩]) ∧ Below w.heap.size w w' := by
 go_enter Try.func70, Try.ntmps70
 go_wp2
 exact bodyPost_ret (v := .agg #[.int .i64 4, .int .i64 t, .int .i64 i, .int .i64 0, .string ⟨#[]⟩]) (by simp [results, go_sem]) rfl ⟨rfl, below_alloc2' _ _ _⟩
end Go.Proofs.Ytfmannphobjgpaa
namespace Go.Proofs.Ytfmannphobjgpaa
open Go.ChangeShapes Go.WideShapes Go.ChangeAt Go.RowKit Go.PlainAid
set_option linter.unusedVariables false
def recV (r : Rcd) : Value := if recOk r = true then kindV r else .nilIface
def rest0 (k t i v : Int) (d : ByteArray) : Bool :=
 if k = 1 then decide (i = 0) && decide (d = ByteArray.empty) else if k = 2 then decide (v = 0)
 else if k = 3 then decide (t = 0) && decide (v = 0) && decide (d = ByteArray.empty) else decide (v = 0) && decide (d = ByteArray.empty)
theorem recOk_iff (k t i v : Int) (d : ByteArray) : recOk ⟨k, t, i, v, d⟩ = (bnd k t i v d.size && rest0 k t i v d) := by
 rw [Bool.eq_iff_iff]
 unfold recOk bnd rest0 based inIt
 have hz : d = ByteArray.empty → (d.size : Int) = 0 := fun h => by subst h; rfl
 by_cases k1 : k = 1
 ·subst k1
  simp
  constructor <;> intro h <;> simp [h]
 by_cases k2 : k = 2
 ·subst k2
  simp
  omega
 by_cases k3 : k = 3
 ·subst k3
  simp
  constructor <;> intro h <;> simp [h]
 by_cases k4 : k = 4
 ·subst k4
  by_cases hd : d = ByteArray.empty
  ·have := hz hd
   by_cases hi : i = 0
   ·subst hi
    simp [hd]
   ·simp [hd, hi]
    omega
  ·simp [hd]
 ·simp [k1, k2, k3, k4]
theorem empty_eqs (d : ByteArray) : ([] == d.toList) = decide (d = ByteArray.empty) := by
 rw [← empty_beq]
 cases d.toList <;> rfl
set_option maxHeartbeats 1000000 in
theorem recordOf_no (k t i v : Int) (d : ByteArray) (w : World) (hd : d.size ≤ maxLen) (hn : bnd k t i v d.size = false) : Calls Try.prog 25 #[.agg #[.int .i64 k, .int .i64 t, .int .i64 i, .int .i64 v, .string d]] w fun e w' => e = .returned .nilIface ∧ Below w.heap.size w w' := by
 have c1 := fun wx => inBoundsV k t i v d wx hd
 rw [hn] at c1
 have hb0 : Below w.heap.size w (w.alloc (.cells #[.int .i64 k, .int .i64 t, .int .i64 i, .int .i64 v, .string d] 35)) := (Below.refl _ _).alloc (Nat.le_refl _) _
 go_enter Try.func25, Try.ntmps25
 go_wp2_with fail
 generalize w.alloc (.cells #[.int .i64 k, .int .i64 t, .int .i64 i, .int .i64 v, .string d] 35) = W at *
 refine (c1 _).mono ?_
 rintro e w1 ⟨rfl, hb1⟩
 have B1 : Hid (Below w.heap.size w w1) := hb0.trans (hb1.mono hb0.size)
 clear hb0 hb1 c1
 go_wp2_with fail
 go_ret
 exact ⟨rfl, B1.out⟩
set_option maxHeartbeats 2000000 in
theorem recordOf_hard (t i v : Int) (d : ByteArray) (w : World) (hd : d.size ≤ maxLen) (hn : bnd 1 t i v d.size = true) : Calls Try.prog 25 #[.agg #[.int .i64 1, .int .i64 t, .int .i64 i, .int .i64 v, .string d]] w fun e w' => e = .returned (recV ⟨1, t, i, v, d⟩) ∧ Below w.heap.size w w' := by
 have HE : Hid (recV ⟨1, t, i, v, d⟩ = if (decide (i = 0) && decide (d = ByteArray.empty)) = true then kindV ⟨1, t, i, v, d⟩ else .nilIface) := by unfold Hid recV; rw [recOk_iff, hn, Bool.true_and]; rfl
 have c1 := fun wx => inBoundsV 1 t i v d wx hd
 rw [hn] at c1
 have c2 := fun wx => kindOfV 1 t i v d wx
 have c3 := fun wx => hardRec t v wx
 have hb0 : Below w.heap.size w (w.alloc (.cells #[.int .i64 1, .int .i64 t, .int .i64 i, .int .i64 v, .string d] 35)) := (Below.refl _ _).alloc (Nat.le_refl _) _
 have k0 := Blk.new w #[.int .i64 1, .int .i64 t, .int .i64 i, .int .i64 v, .string d] 35
 clear hd hn
 go_enter Try.func25, Try.ntmps25
 go_wp2_with fail
 generalize w.alloc (.cells #[.int .i64 1, .int .i64 t, .int .i64 i, .int .i64 v, .string d] 35) = W at *
 refine (c1 _).mono ?_
 rintro e w1 ⟨rfl, hb1⟩
 have B1 : Hid (Below w.heap.size w w1) := hb0.trans (hb1.mono hb0.size)
 have k1 := k0.on hb1 k0.lt
 clear hb0 hb1 c1 k0
 have e0 := k1.cell 0 (.int .i64 1) rfl
 have e1 := k1.cell 1 (.int .i64 t) rfl
 have e2 := k1.cell 2 (.int .i64 i) rfl
 have e3 := k1.cell 3 (.int .i64 v) rfl
 have e4 := k1.cell 4 (.string d) rfl
 have K1 : Hid (Blk w1 w.heap.size _ _) := k1
 clear k1
 go_wp2_with fail
 refine (c2 _).mono ?_
 rintro e w2 ⟨rfl, hb2⟩
 have B2 : Hid (Below w.heap.size w w2) := B1.out.trans (hb2.mono B1.out.size)
 have k2 := K1.out.on hb2 K1.out.lt
 have hlt : w.heap.size < w2.heap.size := k2.lt
 clear hb2 e0 e1 e2 e3 e4 K1 B1
 have e0 := k2.cell 0 (.int .i64 1) rfl
 have e1 := k2.cell 1 (.int .i64 t) rfl
 have e2 := k2.cell 2 (.int .i64 i) rfl
 have e3 := k2.cell 3 (.int .i64 v) rfl
 have e4 := k2.cell 4 (.string d) rfl
 clear k2 c2
 rw [show kindV ⟨1, t, i, v, d⟩ = .iface 48 (.agg #[.int .i64 t, .int .i64 v]) from rfl]
 by_cases hzi : i = 0
 ·subst hzi
  rw [decide_eq_true rfl] at HE
  have hb1 := empty_beq d
  have hb2 := empty_eqs d
  cases hdd : decide (d = ByteArray.empty) <;> rw [hdd] at hb1 hb2 HE <;> clear hdd
  ·have HE : Hid (recV ⟨1, t, 0, v, d⟩ = .nilIface) := by unfold Hid; rw [HE.out]; rfl
   go_wp2_with fail
   go_region_with (go_at_call 67; refine (c3 _).mono ?_; rintro e w3 ⟨rfl, hb3⟩; have a0 := (hb3.cell (p := ⟨w.heap.size, 0, none⟩) hlt).trans e0; have a1 := (hb3.cell (p := ⟨w.heap.size, 1, none⟩) hlt).trans e1; have a2 := (hb3.cell (p := ⟨w.heap.size, 2, none⟩) hlt).trans e2; have a3 := (hb3.cell (p := ⟨w.heap.size, 3, none⟩) hlt).trans e3; have a4 := (hb3.cell (p := ⟨w.heap.size, 4, none⟩) hlt).trans e4)
   all_goals go_wp2_with fail
   all_goals go_ret
   all_goals exact ⟨by rw [HE.out]; first | rfl | simp [kindV], B2.out.trans (((Below.refl _ w2).drew.trans hb3).mono B2.out.size)⟩
  ·have HE : Hid (recV ⟨1, t, 0, v, d⟩ = kindV ⟨1, t, 0, v, d⟩) := by unfold Hid; rw [HE.out]; rfl
   go_wp2_with fail
   go_region_with (go_at_call 67; refine (c3 _).mono ?_; rintro e w3 ⟨rfl, hb3⟩; have a0 := (hb3.cell (p := ⟨w.heap.size, 0, none⟩) hlt).trans e0; have a1 := (hb3.cell (p := ⟨w.heap.size, 1, none⟩) hlt).trans e1; have a2 := (hb3.cell (p := ⟨w.heap.size, 2, none⟩) hlt).trans e2; have a3 := (hb3.cell (p := ⟨w.heap.size, 3, none⟩) hlt).trans e3; have a4 := (hb3.cell (p := ⟨w.heap.size, 4, none⟩) hlt).trans e4)
   all_goals go_wp2_with fail
   all_goals go_ret
   all_goals exact ⟨by rw [HE.out]; first | rfl | simp [kindV], B2.out.trans (((Below.refl _ w2).drew.trans hb3).mono B2.out.size)⟩
 ·rw [decide_eq_false hzi] at HE
  have HE : Hid (recV ⟨1, t, i, v, d⟩ = .nilIface) := by unfold Hid; rw [HE.out]; first | rfl | simp
  have zi : ((0 : Int) == i) = false := by simpa using Ne.symm hzi
  go_wp2_with fail
  go_region_with (go_at_call 67; refine (c3 _).mono ?_; rintro e w3 ⟨rfl, hb3⟩; have a0 := (hb3.cell (p := ⟨w.heap.size, 0, none⟩) hlt).trans e0; have a1 := (hb3.cell (p := ⟨w.heap.size, 1, none⟩) hlt).trans e1; have a2 := (hb3.cell (p := ⟨w.heap.size, 2, none⟩) hlt).trans e2; have a3 := (hb3.cell (p := ⟨w.heap.size, 3, none⟩) hlt).trans e3; have a4 := (hb3.cell (p := ⟨w.heap.size, 4, none⟩) hlt).trans e4)
  all_goals go_wp2_with fail
  all_goals go_ret
  all_goals exact ⟨by rw [HE.out]; first | rfl | simp [kindV], B2.out.trans (((Below.refl _ w2).drew.trans hb3).mono B2.out.size)⟩
set_option maxHeartbeats 2000000 in
theorem recordOf_entry (t i v : Int) (d : ByteArray) (w : World) (hd : d.size ≤ maxLen) (hn : bnd 2 t i v d.size = true) : Calls Try.prog 25 #[.agg #[.int .i64 2, .int .i64 t, .int .i64 i, .int .i64 v, .string d]] w fun e w' => e = .returned (recV ⟨2, t, i, v, d⟩) ∧ Below w.heap.size w w' := by
 have HE : Hid (recV ⟨2, t, i, v, d⟩ = if (decide (v = 0)) = true then kindV ⟨2, t, i, v, d⟩ else .nilIface) := by unfold Hid recV; rw [recOk_iff, hn, Bool.true_and]; rfl
 have c1 := fun wx => inBoundsV 2 t i v d wx hd
 rw [hn] at c1
 have c2 := fun wx => kindOfV 2 t i v d wx
 have c3 := fun wx => entryRec i t d wx
 have hb0 : Below w.heap.size w (w.alloc (.cells #[.int .i64 2, .int .i64 t, .int .i64 i, .int .i64 v, .string d] 35)) := (Below.refl _ _).alloc (Nat.le_refl _) _
 have k0 := Blk.new w #[.int .i64 2, .int .i64 t, .int .i64 i, .int .i64 v, .string d] 35
 clear hd hn
 go_enter Try.func25, Try.ntmps25
 go_wp2_with fail
 generalize w.alloc (.cells #[.int .i64 2, .int .i64 t, .int .i64 i, .int .i64 v, .string d] 35) = W at *
 refine (c1 _).mono ?_
 rintro e w1 ⟨rfl, hb1⟩
 have B1 : Hid (Below w.heap.size w w1) := hb0.trans (hb1.mono hb0.size)
 have k1 := k0.on hb1 k0.lt
 clear hb0 hb1 c1 k0
 have e0 := k1.cell 0 (.int .i64 2) rfl
 have e1 := k1.cell 1 (.int .i64 t) rfl
 have e2 := k1.cell 2 (.int .i64 i) rfl
 have e3 := k1.cell 3 (.int .i64 v) rfl
 have e4 := k1.cell 4 (.string d) rfl
 have K1 : Hid (Blk w1 w.heap.size _ _) := k1
 clear k1
 go_wp2_with fail
 refine (c2 _).mono ?_
 rintro e w2 ⟨rfl, hb2⟩
 have B2 : Hid (Below w.heap.size w w2) := B1.out.trans (hb2.mono B1.out.size)
 have k2 := K1.out.on hb2 K1.out.lt
 have hlt : w.heap.size < w2.heap.size := k2.lt
 clear hb2 e0 e1 e2 e3 e4 K1 B1
 have e0 := k2.cell 0 (.int .i64 2) rfl
 have e1 := k2.cell 1 (.int .i64 t) rfl
 have e2 := k2.cell 2 (.int .i64 i) rfl
 have e3 := k2.cell 3 (.int .i64 v) rfl
 have e4 := k2.cell 4 (.string d) rfl
 clear k2 c2
 rw [show kindV ⟨2, t, i, v, d⟩ = .iface 74 (.agg #[.int .i64 i, .int .i64 t, .string d]) from rfl]
 by_cases hzv : v = 0
 ·subst hzv
  rw [decide_eq_true rfl] at HE
  have HE : Hid (recV ⟨2, t, i, 0, d⟩ = kindV ⟨2, t, i, 0, d⟩) := by unfold Hid; rw [HE.out]; rfl
  go_wp2_with fail
  go_region_with (go_at_call 69; refine (c3 _).mono ?_; rintro e w3 ⟨rfl, hb3⟩; have a0 := (hb3.cell (p := ⟨w.heap.size, 0, none⟩) hlt).trans e0; have a1 := (hb3.cell (p := ⟨w.heap.size, 1, none⟩) hlt).trans e1; have a2 := (hb3.cell (p := ⟨w.heap.size, 2, none⟩) hlt).trans e2; have a3 := (hb3.cell (p := ⟨w.heap.size, 3, none⟩) hlt).trans e3; have a4 := (hb3.cell (p := ⟨w.heap.size, 4, none⟩) hlt).trans e4)
  all_goals go_wp2_with fail
  all_goals go_ret
  all_goals exact ⟨by rw [HE.out]; first | rfl | simp [kindV], B2.out.trans (((Below.refl _ w2).drew.trans hb3).mono B2.out.size)⟩
 ·rw [decide_eq_false hzv] at HE
  have HE : Hid (recV ⟨2, t, i, v, d⟩ = .nilIface) := by unfold Hid; rw [HE.out]; first | rfl | simp
  have zv : ((0 : Int) == v) = false := by simpa using Ne.symm hzv
  go_wp2_with fail
  go_region_with (go_at_call 69; refine (c3 _).mono ?_; rintro e w3 ⟨rfl, hb3⟩; have a0 := (hb3.cell (p := ⟨w.heap.size, 0, none⟩) hlt).trans e0; have a1 := (hb3.cell (p := ⟨w.heap.size, 1, none⟩) hlt).trans e1; have a2 := (hb3.cell (p := ⟨w.heap.size, 2, none⟩) hlt).trans e2; have a3 := (hb3.cell (p := ⟨w.heap.size, 3, none⟩) hlt).trans e3; have a4 := (hb3.cell (p := ⟨w.heap.size, 4, none⟩) hlt).trans e4)
  all_goals go_wp2_with fail
  all_goals go_ret
  all_goals exact ⟨by rw [HE.out]; first | rfl | simp [kindV], B2.out.trans (((Below.refl _ w2).drew.trans hb3).mono B2.out.size)⟩
set_option maxHeartbeats 2000000 in
theorem recordOf_cut (t i v : Int) (d : ByteArray) (w : World) (hd : d.size ≤ maxLen) (hn : bnd 3 t i v d.size = true) : Calls Try.prog 25 #[.agg #[.int .i64 3, .int .i64 t, .int .i64 i, .int .i64 v, .string d]] w fun e w' => e = .returned (recV ⟨3, t, i, v, d⟩) ∧ Below w.heap.size w w' := by
 have HE : Hid (recV ⟨3, t, i, v, d⟩ = if (decide (t = 0) && decide (v = 0) && decide (d = ByteArray.empty)) = true then kindV ⟨3, t, i, v, d⟩ else .nilIface) := by unfold Hid recV; rw [recOk_iff, hn, Bool.true_and]; rfl
 have c1 := fun wx => inBoundsV 3 t i v d wx hd
 rw [hn] at c1
 have c2 := fun wx => kindOfV 3 t i v d wx
 have c3 := fun wx => cutRec i wx
 have hb0 : Below w.heap.size w (w.alloc (.cells #[.int .i64 3, .int .i64 t, .int .i64 i, .int .i64 v, .string d] 35)) := (Below.refl _ _).alloc (Nat.le_refl _) _
 have k0 := Blk.new w #[.int .i64 3, .int .i64 t, .int .i64 i, .int .i64 v, .string d] 35
 clear hd hn
 go_enter Try.func25, Try.ntmps25
 go_wp2_with fail
 generalize w.alloc (.cells #[.int .i64 3, .int .i64 t, .int .i64 i, .int .i64 v, .string d] 35) = W at *
 refine (c1 _).mono ?_
 rintro e w1 ⟨rfl, hb1⟩
 have B1 : Hid (Below w.heap.size w w1) := hb0.trans (hb1.mono hb0.size)
 have k1 := k0.on hb1 k0.lt
 clear hb0 hb1 c1 k0
 have e0 := k1.cell 0 (.int .i64 3) rfl
 have e1 := k1.cell 1 (.int .i64 t) rfl
 have e2 := k1.cell 2 (.int .i64 i) rfl
 have e3 := k1.cell 3 (.int .i64 v) rfl
 have e4 := k1.cell 4 (.string d) rfl
 have K1 : Hid (Blk w1 w.heap.size _ _) := k1
 clear k1
 go_wp2_with fail
 refine (c2 _).mono ?_
 rintro e w2 ⟨rfl, hb2⟩
 have B2 : Hid (Below w.heap.size w w2) := B1.out.trans (hb2.mono B1.out.size)
 have k2 := K1.out.on hb2 K1.out.lt
 have hlt : w.heap.size < w2.heap.size := k2.lt
 clear hb2 e0 e1 e2 e3 e4 K1 B1
 have e0 := k2.cell 0 (.int .i64 3) rfl
 have e1 := k2.cell 1 (.int .i64 t) rfl
 have e2 := k2.cell 2 (.int .i64 i) rfl
 have e3 := k2.cell 3 (.int .i64 v) rfl
 have e4 := k2.cell 4 (.string d) rfl
 clear k2 c2
 rw [show kindV ⟨3, t, i, v, d⟩ = .iface 51 (.agg #[.int .i64 i]) from rfl]
 by_cases hzt : t = 0
 ·subst hzt
  rw [decide_eq_true rfl] at HE
  by_cases hzv : v = 0
  ·subst hzv
   rw [decide_eq_true rfl] at HE
   have hb1 := empty_beq d
   have hb2 := empty_eqs d
   cases hdd : decide (d = ByteArray.empty) <;> rw [hdd] at hb1 hb2 HE <;> clear hdd
   ·have HE : Hid (recV ⟨3, 0, i, 0, d⟩ = .nilIface) := by unfold Hid; rw [HE.out]; rfl
    go_wp2_with fail
    go_region_with (go_at_call 68; refine (c3 _).mono ?_; rintro e w3 ⟨rfl, hb3⟩; have a0 := (hb3.cell (p := ⟨w.heap.size, 0, none⟩) hlt).trans e0; have a1 := (hb3.cell (p := ⟨w.heap.size, 1, none⟩) hlt).trans e1; have a2 := (hb3.cell (p := ⟨w.heap.size, 2, none⟩) hlt).trans e2; have a3 := (hb3.cell (p := ⟨w.heap.size, 3, none⟩) hlt).trans e3; have a4 := (hb3.cell (p := ⟨w.heap.size, 4, none⟩) hlt).trans e4)
    all_goals go_wp2_with fail
    all_goals go_ret
    all_goals exact ⟨by rw [HE.out]; first | rfl | simp [kindV], B2.out.trans (((Below.refl _ w2).drew.trans hb3).mono B2.out.size)⟩
   ·have HE : Hid (recV ⟨3, 0, i, 0, d⟩ = kindV ⟨3, 0, i, 0, d⟩) := by unfold Hid; rw [HE.out]; rfl
    go_wp2_with fail
    go_region_with (go_at_call 68; refine (c3 _).mono ?_; rintro e w3 ⟨rfl, hb3⟩; have a0 := (hb3.cell (p := ⟨w.heap.size, 0, none⟩) hlt).trans e0; have a1 := (hb3.cell (p := ⟨w.heap.size, 1, none⟩) hlt).trans e1; have a2 := (hb3.cell (p := ⟨w.heap.size, 2, none⟩) hlt).trans e2; have a3 := (hb3.cell (p := ⟨w.heap.size, 3, none⟩) hlt).trans e3; have a4 := (hb3.cell (p := ⟨w.heap.size, 4, none⟩) hlt).trans e4)
    all_goals go_wp2_with fail
    all_goals go_ret
    all_goals exact ⟨by rw [HE.out]; first | rfl | simp [kindV], B2.out.trans (((Below.refl _ w2).drew.trans hb3).mono B2.out.size)⟩
  ·rw [decide_eq_false hzv] at HE
   have HE : Hid (recV ⟨3, 0, i, v, d⟩ = .nilIface) := by unfold Hid; rw [HE.out]; first | rfl | simp
   have zv : ((0 : Int) == v) = false := by simpa using Ne.symm hzv
   go_wp2_with fail
   go_region_with (go_at_call 68; refine (c3 _).mono ?_; rintro e w3 ⟨rfl, hb3⟩; have a0 := (hb3.cell (p := ⟨w.heap.size, 0, none⟩) hlt).trans e0; have a1 := (hb3.cell (p := ⟨w.heap.size, 1, none⟩) hlt).trans e1; have a2 := (hb3.cell (p := ⟨w.heap.size, 2, none⟩) hlt).trans e2; have a3 := (hb3.cell (p := ⟨w.heap.size, 3, none⟩) hlt).trans e3; have a4 := (hb3.cell (p := ⟨w.heap.size, 4, none⟩) hlt).trans e4)
   all_goals go_wp2_with fail
   all_goals go_ret
   all_goals exact ⟨by rw [HE.out]; first | rfl | simp [kindV], B2.out.trans (((Below.refl _ w2).drew.trans hb3).mono B2.out.size)⟩
 ·rw [decide_eq_false hzt] at HE
  have HE : Hid (recV ⟨3, t, i, v, d⟩ = .nilIface) := by unfold Hid; rw [HE.out]; first | rfl | simp
  have zt : ((0 : Int) == t) = false := by simpa using Ne.symm hzt
  go_wp2_with fail
  go_region_with (go_at_call 68; refine (c3 _).mono ?_; rintro e w3 ⟨rfl, hb3⟩; have a0 := (hb3.cell (p := ⟨w.heap.size, 0, none⟩) hlt).trans e0; have a1 := (hb3.cell (p := ⟨w.heap.size, 1, none⟩) hlt).trans e1; have a2 := (hb3.cell (p := ⟨w.heap.size, 2, none⟩) hlt).trans e2; have a3 := (hb3.cell (p := ⟨w.heap.size, 3, none⟩) hlt).trans e3; have a4 := (hb3.cell (p := ⟨w.heap.size, 4, none⟩) hlt).trans e4)
  all_goals go_wp2_with fail
  all_goals go_ret
  all_goals exact ⟨by rw [HE.out]; first | rfl | simp [kindV], B2.out.trans (((Below.refl _ w2).drew.trans hb3).mono B2.out.size)⟩
set_option maxHeartbeats 2000000 in
theorem recordOf_base (t i v : Int) (d : ByteArray) (w : World) (hd : d.size ≤ maxLen) (hn : bnd 4 t i v d.size = true) : Calls Try.prog 25 #[.agg #[.int .i64 4, .int .i64 t, .int .i64 i, .int .i64 v, .string d]] w fun e w' => e = .returned (recV ⟨4, t, i, v, d⟩) ∧ Below w.heap.size w w' := by
 have HE : Hid (recV ⟨4, t, i, v, d⟩ = if (decide (v = 0) && decide (d = ByteArray.empty)) = true then kindV ⟨4, t, i, v, d⟩ else .nilIface) := by unfold Hid recV; rw [recOk_iff, hn, Bool.true_and]; rfl
 have c1 := fun wx => inBoundsV 4 t i v d wx hd
 rw [hn] at c1
 have c2 := fun wx => kindOfV 4 t i v d wx
 have c3 := fun wx => baseRec i t wx
 have hb0 : Below w.heap.size w (w.alloc (.cells #[.int .i64 4, .int .i64 t, .int .i64 i, .int .i64 v, .string d] 35)) := (Below.refl _ _).alloc (Nat.le_refl _) _
 have k0 := Blk.new w #[.int .i64 4, .int .i64 t, .int .i64 i, .int .i64 v, .string d] 35
 clear hd hn
 go_enter Try.func25, Try.ntmps25
 go_wp2_with fail
 generalize w.alloc (.cells #[.int .i64 4, .int .i64 t, .int .i64 i, .int .i64 v, .string d] 35) = W at *
 refine (c1 _).mono ?_
 rintro e w1 ⟨rfl, hb1⟩
 have B1 : Hid (Below w.heap.size w w1) := hb0.trans (hb1.mono hb0.size)
 have k1 := k0.on hb1 k0.lt
 clear hb0 hb1 c1 k0
 have e0 := k1.cell 0 (.int .i64 4) rfl
 have e1 := k1.cell 1 (.int .i64 t) rfl
 have e2 := k1.cell 2 (.int .i64 i) rfl
 have e3 := k1.cell 3 (.int .i64 v) rfl
 have e4 := k1.cell 4 (.string d) rfl
 have K1 : Hid (Blk w1 w.heap.size _ _) := k1
 clear k1
 go_wp2_with fail
 refine (c2 _).mono ?_
 rintro e w2 ⟨rfl, hb2⟩
 have B2 : Hid (Below w.heap.size w w2) := B1.out.trans (hb2.mono B1.out.size)
 have k2 := K1.out.on hb2 K1.out.lt
 have hlt : w.heap.size < w2.heap.size := k2.lt
 clear hb2 e0 e1 e2 e3 e4 K1 B1
 have e0 := k2.cell 0 (.int .i64 4) rfl
 have e1 := k2.cell 1 (.int .i64 t) rfl
 have e2 := k2.cell 2 (.int .i64 i) rfl
 have e3 := k2.cell 3 (.int .i64 v) rfl
 have e4 := k2.cell 4 (.string d) rfl
 clear k2 c2
 rw [show kindV ⟨4, t, i, v, d⟩ = .iface 90 (.agg #[.int .i64 i, .int .i64 t]) from rfl]
 by_cases hzv : v = 0
 ·subst hzv
  rw [decide_eq_true rfl] at HE
  have hb1 := empty_beq d
  have hb2 := empty_eqs d
  cases hdd : decide (d = ByteArray.empty) <;> rw [hdd] at hb1 hb2 HE <;> clear hdd
  ·have HE : Hid (recV ⟨4, t, i, 0, d⟩ = .nilIface) := by unfold Hid; rw [HE.out]; rfl
   go_wp2_with fail
   go_region_with (go_at_call 70; refine (c3 _).mono ?_; rintro e w3 ⟨rfl, hb3⟩; have a0 := (hb3.cell (p := ⟨w.heap.size, 0, none⟩) hlt).trans e0; have a1 := (hb3.cell (p := ⟨w.heap.size, 1, none⟩) hlt).trans e1; have a2 := (hb3.cell (p := ⟨w.heap.size, 2, none⟩) hlt).trans e2; have a3 := (hb3.cell (p := ⟨w.heap.size, 3, none⟩) hlt).trans e3; have a4 := (hb3.cell (p := ⟨w.heap.size, 4, none⟩) hlt).trans e4)
   all_goals go_wp2_with fail
   all_goals go_ret
   all_goals exact ⟨by rw [HE.out]; first | rfl | simp [kindV], B2.out.trans (((Below.refl _ w2).drew.trans hb3).mono B2.out.size)⟩
  ·have HE : Hid (recV ⟨4, t, i, 0, d⟩ = kindV ⟨4, t, i, 0, d⟩) := by unfold Hid; rw [HE.out]; rfl
   go_wp2_with fail
   go_region_with (go_at_call 70; refine (c3 _).mono ?_; rintro e w3 ⟨rfl, hb3⟩; have a0 := (hb3.cell (p := ⟨w.heap.size, 0, none⟩) hlt).trans e0; have a1 := (hb3.cell (p := ⟨w.heap.size, 1, none⟩) hlt).trans e1; have a2 := (hb3.cell (p := ⟨w.heap.size, 2, none⟩) hlt).trans e2; have a3 := (hb3.cell (p := ⟨w.heap.size, 3, none⟩) hlt).trans e3; have a4 := (hb3.cell (p := ⟨w.heap.size, 4, none⟩) hlt).trans e4)
   all_goals go_wp2_with fail
   all_goals go_ret
   all_goals exact ⟨by rw [HE.out]; first | rfl | simp [kindV], B2.out.trans (((Below.refl _ w2).drew.trans hb3).mono B2.out.size)⟩
 ·rw [decide_eq_false hzv] at HE
  have HE : Hid (recV ⟨4, t, i, v, d⟩ = .nilIface) := by unfold Hid; rw [HE.out]; first | rfl | simp
  have zv : ((0 : Int) == v) = false := by simpa using Ne.symm hzv
  go_wp2_with fail
  go_region_with (go_at_call 70; refine (c3 _).mono ?_; rintro e w3 ⟨rfl, hb3⟩; have a0 := (hb3.cell (p := ⟨w.heap.size, 0, none⟩) hlt).trans e0; have a1 := (hb3.cell (p := ⟨w.heap.size, 1, none⟩) hlt).trans e1; have a2 := (hb3.cell (p := ⟨w.heap.size, 2, none⟩) hlt).trans e2; have a3 := (hb3.cell (p := ⟨w.heap.size, 3, none⟩) hlt).trans e3; have a4 := (hb3.cell (p := ⟨w.heap.size, 4, none⟩) hlt).trans e4)
  all_goals go_wp2_with fail
  all_goals go_ret
  all_goals exact ⟨by rw [HE.out]; first | rfl | simp [kindV], B2.out.trans (((Below.refl _ w2).drew.trans hb3).mono B2.out.size)⟩
theorem recordOfV (r : Rcd) (w : World) (hd : r.data.size ≤ maxLen) : Calls Try.prog 25 #[vRcd r] w fun e w' => e = .returned (recV r) ∧ Below w.heap.size w w' := by
 obtain ⟨k, t, i, v, d⟩ := r
 cases hn : bnd k t i v d.size
 ·have : recV ⟨k, t, i, v, d⟩ = .nilIface := by unfold recV; rw [recOk_iff, hn]; rfl
  rw [this]
  exact recordOf_no k t i v d w hd hn
 ·have hh := of_decide_eq_true hn
  rcases (show k = 1 ∨ k = 2 ∨ k = 3 ∨ k = 4 by omega) with rfl | rfl | rfl | rfl
  ·exact recordOf_hard t i v d w hd hn
  ·exact recordOf_entry t i v d w hd hn
  ·exact recordOf_cut t i v d w hd hn
  ·exact recordOf_base t i v d w hd hn
set_option maxHeartbeats 1000000 in
theorem implRecOk (r : Rcd) (w : World) (hd : r.data.size ≤ maxLen) : Calls Try.prog 27 #[vRcd r] w fun e w' => e = .returned (.bool (recOk r)) ∧ Below w.heap.size w w' := by
 have c1 := fun wx => recordOfV r wx hd
 have HE : Hid (recV r = if recOk r = true then kindV r else .nilIface) := rfl
 have HK : Hid (∃ a b, kindV r = .iface a b) := by
  unfold Hid kindV
  split
  ·exact ⟨_, _, rfl⟩
  split
  ·exact ⟨_, _, rfl⟩
  split
  ·exact ⟨_, _, rfl⟩
  ·exact ⟨_, _, rfl⟩
 unfold vRcd at *
 have hb0 : Below w.heap.size w (w.alloc (.cells #[.int .i64 r.kind, .int .i64 r.term, .int .i64 r.index, .int .i64 r.vote, .string r.data] 35)) := (Below.refl _ _).alloc (Nat.le_refl _) _
 go_enter Try.func27, Try.ntmps27
 go_wp2_with fail
 generalize w.alloc (.cells #[.int .i64 r.kind, .int .i64 r.term, .int .i64 r.index, .int .i64 r.vote, .string r.data] 35) = W at *
 refine (c1 _).mono ?_
 rintro e w1 ⟨rfl, hb1⟩
 have B1 : Hid (Below w.heap.size w w1) := hb0.trans (hb1.mono hb0.size)
 clear hb0 hb1 c1
 cases ho : recOk r
 ·rw [show recV r = .nilIface by rw [HE.out, ho]; rfl]
  go_wp2_with fail
  go_ret
  exact ⟨by rw [ho]; rfl, B1.out⟩
 ·obtain ⟨a, b, hk⟩ := HK.out
  rw [show recV r = .iface a b by rw [HE.out, ho, hk]; rfl]
  clear hk
  go_wp2_with fail
  go_ret
  exact ⟨by rw [ho]; rfl, B1.out⟩
end Go.Proofs.Ytfmannphobjgpaa
namespace Go.Proofs.Ytfmannphobjgpaa
open Go.ChangeShapes Go.WideShapes Go.ChangeAt Go.RowKit Go.PlainAid
set_option linter.unusedVariables false
theorem Try.info5 : (Try.prog.info? 5).map (fun i => (i.zero, i.size, i.bytes)) = some (some (.int .u8 0), 1, 1) := by kernel_rfl
def fixed (n wd : Nat) : ByteArray := if n / 256 ^ wd = 0 then txt (low n wd) else txt []
set_option maxHeartbeats 400000 in
theorem impl_fixed (n k0 : Nat) (w : World) (h1 : (n : Int) ≤ 9223372036854775807) (h2 : 1 ≤ k0) (h3 : k0 ≤ 7) :
  Calls Try.prog 28 #[.int .i64 (n : Int), .int .i64 (k0 : Int)] w fun e w' => e = .returned (.string (fixed n k0)) ∧ Below w.heap.size w w' := by
 have q1 : (1 : Int) ≤ (k0 : Int) := by omega
 have q2 : (k0 : Int) ≤ 7 := by omega
 have q3 : (0 : Int) ≤ (n : Int) := by omega
 have hs := shr8 n k0
 by_cases hz : n / 256 ^ k0 = 0
 ·have hs0 : ((n : Int) / 2 ^ (8 * k0) != 0) = false := by rw [hs, hz]; rfl
  clear hs
  have HZ : Hid (n / 256 ^ k0 = 0) := hz
  clear hz
  have hmk := fun wx => run_make_row' (P := Try.prog) 22 5 (.int .u8 0) 1 Try.underlying22 Try.info5 rfl .i64 .i64 k0 (by omega) (by omega) wx
  go_enter Try.func28, Try.ntmps28
  go_wp2
  go_loopw [27] (fun v27 wr => ∃ k : Nat, k ≤ k0 ∧ v27 = .int .i64 k ∧ wr = w.alloc (.cells (fixRow n k0 k) 5)) (fun i _ => k0 - (intOf i).toNat)
  case atStart => exact ⟨0, by omega, rfl, by rw [fixRow_zero n k0]⟩
  case round =>
   obtain ⟨k, hk, rfl, rfl⟩ := hrel
   by_cases hlt : k < k0
   ·have hat := fixRow_at n k0 k hlt
    go_wp2
    go_roundw
    case rel => exact ⟨k + 1, by omega, by go_num, by rw [shr8_byte, fixRow_set n k0 k hlt]⟩
    case measure => simp [intOf]; omega
   ·have hkk : k = k0 := by omega
    subst hkk
    rw [fixRow_full]
    have hcv := run_row (P := Try.prog) w 22 9 5 Try.underlying22 Try.underlying5 Try.underlying9 (low n k) k
    rw [low_length] at hcv
    go_wp2
    go_ret
    exact ⟨by rw [fixed, if_pos HZ.out]; rfl, (Below.refl _ _).alloc (Nat.le_refl _) _⟩
 ·have hs0 : ((n : Int) / 2 ^ (8 * k0) != 0) = true := by rw [hs]; simp only [bne_iff_ne, ne_eq]; omega
  clear hs
  have HZ : Hid (¬ n / 256 ^ k0 = 0) := hz
  clear hz
  go_enter Try.func28, Try.ntmps28
  go_wp2
  go_ret
  exact ⟨by rw [fixed, if_neg HZ.out]; rfl, Below.refl _ _⟩
set_option maxHeartbeats 400000 in
theorem impl_readFixed (s : ByteArray) (k0 : Nat) (w : World) (hs : s.size ≤ maxLen) (h2 : 1 ≤ k0) (h3 : k0 ≤ 7) (h4 : k0 ≤ s.size) :
  Calls Try.prog 47 #[.string s, .int .i64 (k0 : Int)] w fun e w' => e = .returned (.tuple #[.int .i64 (rdv s k0), .bool true]) ∧ w = w' := by
 unfold maxLen at hs
 have q1 : (1 : Int) ≤ (k0 : Int) := by omega
 have q2 : (k0 : Int) ≤ 7 := by omega
 have hbt := get_bn s
 go_enter Try.func47, Try.ntmps47
 go_wp2
 go_loop [6, 21] (fun v6 v7 => ∃ k : Nat, k ≤ k0 ∧ v7 = .int .i64 k ∧ v6 = .int .i64 (rdv s k)) (fun _ i => k0 - (intOf i).toNat)
 case atStart => exact ⟨0, by omega, rfl, rfl⟩
 case round =>
  obtain ⟨k, hk, rfl, rfl⟩ := hrel
  by_cases hlt : k < k0
  ·have r1 := rdv_le s k (by omega)
   have r2 := bn_lt s k
   have r3 := shl8_or s k (by omega)
   go_wp2
   go_round
   case rel => exact ⟨k + 1, by omega, by go_num, by go_num⟩
   case measure => simp [intOf]; omega
  ·have hkk : k = k0 := by omega
   subst hkk
   go_wp2
   go_ret2
   exact ⟨rfl, rfl⟩
end Go.Proofs.Ytfmannphobjgpaa
namespace Go.Proofs.Ytfmannphobjgpaa
open Go.ChangeShapes Go.WideShapes Go.ChangeAt Go.RowKit Go.PlainAid
set_option linter.unusedVariables false
set_option maxHeartbeats 400000 in
theorem impl_var (n : Nat) (w : World) (h1 : n ≤ 562949953421311) :
  Calls Try.prog 29 #[.int .i64 (n : Int)] w fun e w' => e = .returned (.string (txt (vF 6 n))) ∧ Below w.heap.size w w' := by
 have q1 : (n : Int) ≤ 562949953421311 := by omega
 have q0 : (0 : Int) ≤ (n : Int) := by omega
 have hmk : ∀ w : World, (Instr.makeSlice 22 (.int .i64 0) (.int .i64 7)).run Try.prog w = .ok (.slice (some ⟨w.heap.size, 0, none⟩) 0 7) (w.alloc (.cells #[.int .u8 0, .int .u8 0, .int .u8 0, .int .u8 0, .int .u8 0, .int .u8 0, .int .u8 0] 5)) := fun _ => by kernel_rfl
 go_enter Try.func29, Try.ntmps29
 go_wp2
 go_loopw [0, 3] (fun v0 v3 wr => ∃ m f : Nat, ∃ pre : List UInt8, v0 = .int .i64 m ∧ m ≤ 562949953421311 ∧ m < 128 ^ (f + 1) ∧ pre ++ vF f m = vF 6 n ∧ Buf wr w.heap.size v3 pre ∧ Below w.heap.size w wr) (fun i _ _ => (intOf i).toNat)
 case atStart => exact ⟨n, 6, [], rfl, h1, by omega, rfl, Buf.made w w.heap.size 7 _ (Nat.le_refl _) (by simp [maxLen]) rfl, (Below.refl _ _).alloc (Nat.le_refl _) _⟩
 case round =>
  obtain ⟨m, f, pre, rfl, hm1, hm2, hpre, hbuf, hb⟩ := hrel
  have HP : Hid (pre ++ vF f m = vF 6 n) := hpre
  clear hpre
  have HM : Hid (m < 128 ^ (f + 1)) := hm2
  clear hm2
  have hlp : pre.length ≤ 7 := by
   have := congrArg List.length HP.out
   have := vF_length 6 n
   simp at *
   omega
  have hsz := hb.size
  by_cases hlt : (128 : Int) ≤ (m : Int)
  ·have hcs := one_cell ((m : Int) % 128 + 128) (128 + m % 128) (by omega) (by omega)
   have HC : Hid (#[Value.int .u8 ((m : Int) % 128 + 128)] = byteCells [byt (128 + m % 128)]) := hcs
   clear hcs
   go_wp2_with (at_builtin; refine wpList_append_bytes rfl (.tmp 13) (.tmp 18) 22 rfl Try.underlying22 Try.info5 w.heap.size _ pre rfl hbuf _ [byt (128 + m % 128)] HC.out 1 1 rfl rfl (by simp; omega) hsz ?_; intro v' w1 hbuf1 hb1)
   obtain ⟨g, hg1, hg2, _⟩ := vF_round f m pre HM.out (by omega)
   go_roundw
   case rel => exact ⟨m / 128, g, pre ++ [byt (128 + m % 128)], by go_num, by omega, hg1, hg2.trans HP.out, hbuf1, hb.trans hb1⟩
   case measure => simp [intOf]; omega
  ·have hcs := one_cell (m : Int) m rfl (by omega)
   have HC : Hid (#[Value.int .u8 (m : Int)] = byteCells [byt m]) := hcs
   clear hcs
   go_wp2_with (at_builtin; refine wpList_append_bytes rfl (.tmp 22) (.tmp 25) 22 rfl Try.underlying22 Try.info5 w.heap.size _ pre rfl hbuf _ [byt m] HC.out 1 1 rfl rfl (by simp; omega) hsz ?_; intro v' w1 hbuf1 hb1; have hcv := hbuf1.string (P := Try.prog) 22 9 Try.underlying22 Try.underlying5 Try.underlying9)
   go_ret
   exact ⟨by rw [← HP.out, vF_small f m (by omega)]; rfl, hb.trans hb1⟩
end Go.Proofs.Ytfmannphobjgpaa
namespace Go.Proofs.Ytfmannphobjgpaa
open Go.ChangeShapes Go.WideShapes Go.ChangeAt Go.RowKit Go.PlainAid
set_option linter.unusedVariables false
def ReadV (s : ByteArray) (e : Ending) : Prop :=
 (∃ k : Nat, FindV s k ∧ e = .returned (.tuple #[.int .i64 (vvS s 0 k : Int), .int .i64 (k : Int)])) ∨ ((∀ k, ¬ FindV s k) ∧ e = .returned (.tuple #[.int .i64 0, .int .i64 0]))
theorem vvS_or (s : ByteArray) (k : Nat) (h : k < 7) : bits .or .i64 (vvS s 0 k : Int) (wrap64 ((bn s k : Int) % 128 * 2 ^ (7 * k))) = (vvS s 0 (k + 1) : Int) := by
 have h1 := vvS_lt s k 0
 have h2 := vvS_le s (k + 1) (by omega) 0
 have e := vvS_snoc s k 0
 rw [Nat.zero_add] at e
 have e2 : (128 : Nat) ^ k = 2 ^ (7 * k) := by rw [Nat.pow_mul]
 have c : (bn s k : Int) % 128 * 2 ^ (7 * k) = ((bn s k % 128 * 2 ^ (7 * k) : Nat) : Int) := by norm_cast
 rw [e2] at e h1
 rw [c, IntWalk.wrap64_in _ ⟨by omega, by omega⟩]
 have j := or_join (7 * k) (bn s k % 128 * 2 ^ (7 * k)) (vvS s 0 k) (Nat.mul_mod_left _ _) h1 (by omega)
 have comm : bits .or .i64 (vvS s 0 k : Int) ((bn s k % 128 * 2 ^ (7 * k) : Nat) : Int) = bits .or .i64 ((bn s k % 128 * 2 ^ (7 * k) : Nat) : Int) (vvS s 0 k : Int) := by
  show IntKind.i64.wrap ((BitVec.ofInt 64 _ ||| BitVec.ofInt 64 _).toNat : Int) = IntKind.i64.wrap ((BitVec.ofInt 64 _ ||| BitVec.ofInt 64 _).toNat : Int)
  rw [BitVec.or_comm]
 rw [comm, j, e, Nat.add_comm]
theorem find_stop (s : ByteArray) (k : Nat) (hk : k < 7) (hs : k < s.size) (hj : ∀ j, j < k → 128 ≤ bn s j) (hc : bn s k < 128) (hz : k = 0 ∨ bn s k ≠ 0) : FindV s (k + 1) :=
 ⟨by omega, by omega, by omega, (canonS_char s k 0).2 ⟨by intro j h; rw [Nat.zero_add]; exact hj j h, by rw [Nat.zero_add]; exact hc, by rw [Nat.zero_add]; exact hz⟩⟩
theorem find_zero (s : ByteArray) (k : Nat) (hj : ∀ j, j < k → 128 ≤ bn s j) (hc : bn s k = 0) (hk : 0 < k) : ∀ m, ¬ FindV s m := by
 rintro m ⟨h1, h2, h3, h4⟩
 obtain ⟨d, rfl⟩ : ∃ d, m = d + 1 := ⟨m - 1, by omega⟩
 obtain ⟨c1, c2, c3⟩ := (canonS_char s d 0).1 h4
 rw [Nat.zero_add] at c2 c3
 rcases Nat.lt_trichotomy d k with h | h | h
 ·have := hj d h; omega
 ·subst h; omega
 ·have := c1 k h; rw [Nat.zero_add] at this; omega
theorem find_end (s : ByteArray) (L : Nat) (hj : ∀ j, j < L → 128 ≤ bn s j) (hL : 7 ≤ L ∨ s.size ≤ L) : ∀ m, ¬ FindV s m := by
 rintro m ⟨h1, h2, h3, h4⟩
 obtain ⟨d, rfl⟩ : ∃ d, m = d + 1 := ⟨m - 1, by omega⟩
 obtain ⟨c1, c2, c3⟩ := (canonS_char s d 0).1 h4
 rw [Nat.zero_add] at c2
 have := hj d (by omega)
 omega
theorem ret_ints {a b c d : Int} (h : a = b) (h' : c = d) : Ending.returned (.tuple #[.int .i64 a, .int .i64 c]) = .returned (.tuple #[.int .i64 b, .int .i64 d]) := by rw [h, h']
set_option maxHeartbeats 1000000 in
theorem impl_readVar_long (s : ByteArray) (w : World) (hs : s.size ≤ 1048576) (h7 : (7 : Int) < (s.size : Int)) :
  Calls Try.prog 48 #[.string s] w fun e w' => ReadV s e ∧ w = w' := by
 have q1 : (s.size : Int) ≤ 1048576 := by omega
 have hbt := get_bn s
 go_enter Try.func48, Try.ntmps48
 go_wp2
 go_loop [4, 10] (fun v4 v10 => ∃ k : Nat, k ≤ 7 ∧ v10 = .int .i64 k ∧ v4 = .int .i64 (vvS s 0 k) ∧ Hid (∀ j, j < k → 128 ≤ bn s j)) (fun _ i => 7 - (intOf i).toNat)
 case atStart => exact ⟨0, by omega, rfl, rfl, fun j hj => absurd hj (by omega)⟩
 case round =>
  obtain ⟨k, hk, rfl, rfl, HJ⟩ := hrel
  by_cases hlt : k < 7
  ·have r1 := bn_lt s k
   have HO : Hid (bits .or .i64 (vvS s 0 k : Int) (wrap64 ((bn s k : Int) % 128 * 2 ^ (7 * k))) = (vvS s 0 (k + 1) : Int)) := vvS_or s k (by omega)
   by_cases hc : (128 : Int) ≤ (bn s k : Int)
   ·go_wp2
    go_round
    case rel =>
     refine ⟨k + 1, by omega, by go_num, by rw [HO.out], ?_⟩
     intro j hj
     by_cases e : j = k
     ·subst e; omega
     ·exact HJ.out j (by omega)
    case measure => simp [intOf]; omega
   ·by_cases hz : bn s k = 0
    ·by_cases hk0 : k = 0
     ·have HF : Hid (FindV s (k + 1)) := find_stop s k (by omega) (by omega) HJ.out (by omega) (.inl hk0)
      have z1 : ((bn s k : Int) == 0) = true := by simp; omega
      have z2 : (k : Int) ≤ 0 := by omega
      clear hk0 hz
      go_wp2
      go_ret2
      exact ⟨.inl ⟨k + 1, HF.out, ret_ints HO.out (by omega)⟩, rfl⟩
     ·have HF : Hid (∀ m, ¬ FindV s m) := find_zero s k HJ.out hz (by omega)
      have z1 : ((bn s k : Int) == 0) = true := by simp; omega
      have z2 : (0 : Int) < (k : Int) := by omega
      clear hz
      go_wp2
      go_ret2
      exact ⟨.inr ⟨HF.out, rfl⟩, rfl⟩
    ·have HF : Hid (FindV s (k + 1)) := find_stop s k (by omega) (by omega) HJ.out (by omega) (.inr hz)
     have z1 : ((bn s k : Int) == 0) = false := by simp; omega
     go_wp2
     go_ret2
     exact ⟨.inl ⟨k + 1, HF.out, ret_ints HO.out (by omega)⟩, rfl⟩
  ·have HF : Hid (∀ m, ¬ FindV s m) := find_end s k HJ.out (by omega)
   go_wp2
   go_ret2
   exact ⟨.inr ⟨HF.out, rfl⟩, rfl⟩
set_option maxHeartbeats 1000000 in
theorem impl_readVar_short (s : ByteArray) (w : World) (hs : s.size ≤ 1048576) (h7 : (s.size : Int) ≤ 7) :
  Calls Try.prog 48 #[.string s] w fun e w' => ReadV s e ∧ w = w' := by
 have q1 : (s.size : Int) ≤ 1048576 := by omega
 have hbt := get_bn s
 go_enter Try.func48, Try.ntmps48
 go_wp2
 go_loop [4, 10] (fun v4 v10 => ∃ k : Nat, k ≤ s.size ∧ v10 = .int .i64 k ∧ v4 = .int .i64 (vvS s 0 k) ∧ Hid (∀ j, j < k → 128 ≤ bn s j)) (fun _ i => s.size - (intOf i).toNat)
 case atStart => exact ⟨0, by omega, rfl, rfl, fun j hj => absurd hj (by omega)⟩
 case round =>
  obtain ⟨k, hk, rfl, rfl, HJ⟩ := hrel
  by_cases hlt : k < s.size
  ·have r1 := bn_lt s k
   have HO : Hid (bits .or .i64 (vvS s 0 k : Int) (wrap64 ((bn s k : Int) % 128 * 2 ^ (7 * k))) = (vvS s 0 (k + 1) : Int)) := vvS_or s k (by omega)
   by_cases hc : (128 : Int) ≤ (bn s k : Int)
   ·go_wp2
    go_round
    case rel =>
     refine ⟨k + 1, by omega, by go_num, by rw [HO.out], ?_⟩
     intro j hj
     by_cases e : j = k
     ·subst e; omega
     ·exact HJ.out j (by omega)
    case measure => simp [intOf]; omega
   ·by_cases hz : bn s k = 0
    ·by_cases hk0 : k = 0
     ·have HF : Hid (FindV s (k + 1)) := find_stop s k (by omega) (by omega) HJ.out (by omega) (.inl hk0)
      have z1 : ((bn s k : Int) == 0) = true := by simp; omega
      have z2 : (k : Int) ≤ 0 := by omega
      clear hk0 hz
      go_wp2
      go_ret2
      exact ⟨.inl ⟨k + 1, HF.out, ret_ints HO.out (by omega)⟩, rfl⟩
     ·have HF : Hid (∀ m, ¬ FindV s m) := find_zero s k HJ.out hz (by omega)
      have z1 : ((bn s k : Int) == 0) = true := by simp; omega
      have z2 : (0 : Int) < (k : Int) := by omega
      clear hz
      go_wp2
      go_ret2
      exact ⟨.inr ⟨HF.out, rfl⟩, rfl⟩
    ·have HF : Hid (FindV s (k + 1)) := find_stop s k (by omega) (by omega) HJ.out (by omega) (.inr hz)
     have z1 : ((bn s k : Int) == 0) = false := by simp; omega
     go_wp2
     go_ret2
     exact ⟨.inl ⟨k + 1, HF.out, ret_ints HO.out (by omega)⟩, rfl⟩
  ·have HF : Hid (∀ m, ¬ FindV s m) := find_end s k HJ.out (by omega)
   go_wp2
   go_ret2
   exact ⟨.inr ⟨HF.out, rfl⟩, rfl⟩
theorem impl_readVar (s : ByteArray) (w : World) (hs : s.size ≤ 1048576) :
  Calls Try.prog 48 #[.string s] w fun e w' => ReadV s e ∧ w = w' := by
 by_cases h : (7 : Int) < (s.size : Int)
 ·exact impl_readVar_long s w hs h
 ·exact impl_readVar_short s w hs (by omega)
end Go.Proofs.Ytfmannphobjgpaa
namespace Go.Proofs.Ytfmannphobjgpaa
open Go.RowKit
def cloneRen : Go.Shelf.Ren := ⟨fun _ => 51, fun | 37 => 22 | 47 => 92 | t => t, fun g => g⟩
theorem clone_lays : Go.Proofs.LaysPu.n25 Try.prog cloneRen where
 mixed := by kernel_rfl
 f25 := Try.func51.trans (congrArg some (by kernel_rfl))
 t0 := Try.underlying0
 a0 := Try.isAgg0
 z0 := Try.sizeOf0
 v0 := Try.zeroValue0
 i0 := by kernel_rfl
 t3 := Try.underlying3
 a3 := Try.isAgg3
 z3 := Try.sizeOf3
 v3 := Try.zeroValue3
 i3 := by kernel_rfl
 t4 := Try.underlying4
 a4 := Try.isAgg4
 z4 := Try.sizeOf4
 v4 := Try.zeroValue4
 i4 := by kernel_rfl
 t5 := Try.underlying5
 a5 := Try.isAgg5
 z5 := Try.sizeOf5
 v5 := Try.zeroValue5
 i5 := by kernel_rfl
 t9 := Try.underlying9
 a9 := Try.isAgg9
 z9 := Try.sizeOf9
 v9 := Try.zeroValue9
 i9 := by kernel_rfl
 t37 := Try.underlying22
 a37 := Try.isAgg22
 z37 := Try.sizeOf22
 v37 := Try.zeroValue22
 i37 := by kernel_rfl
 t47 := Try.underlying92
 a47 := Try.isAgg92
 z47 := Try.sizeOf92
 v47 := Try.zeroValue92
 i47 := by kernel_rfl
theorem clone (s : ByteArray) (w : World) (hs : s.size ≤ 281474976710656) :
  Calls Try.prog 37 #[.string s] w fun e w' => e = .returned (.string s) ∧ Below w.heap.size w w' := by
 have c1 : Calls Try.prog 51 #[.string s] w fun e w' => e = .returned (.string s) ∧ Below w.heap.size w w' := AnyPu.stringslite_Clone clone_lays s w hs
 clear hs
 go_enter Try.func37, Try.ntmps37
 go_wp2_with fail
 refine c1.mono ?_
 rintro e w1 ⟨rfl, hb1⟩
 go_wp2_with fail
 go_ret
 exact ⟨rfl, hb1⟩
end Go.Proofs.Ytfmannphobjgpaa
namespace Go.Proofs.Ytfmannphobjgpaa
open Go.ChangeShapes Go.WideShapes Go.ChangeAt Go.RowKit Go.PlainAid
set_option linter.unusedVariables false
theorem irv_yes (s : ByteArray) (k : Nat) (hs : s.size ≤ 1048576) (h : FindV s k) (w : World) : Calls Try.prog 48 #[.string s] w fun e w' => e = .returned (.tuple #[.int .i64 (vvS s 0 k : Int), .int .i64 (k : Int)]) ∧ w = w' := by
 refine (impl_readVar s w hs).mono ?_
 rintro e w' ⟨⟨k', hk', rfl⟩ | ⟨hn, rfl⟩, rfl⟩
 ·obtain rfl := FindV.one h hk'
  exact ⟨rfl, rfl⟩
 ·exact absurd h (hn k)
theorem rdv_one (s : ByteArray) : rdv s 1 = bn s 0 := by simp [rdv]
structure Parts (s s1 s2 s3 s4 : ByteArray) (k1 k2 k3 : Nat) : Prop where
 h0 : 1 ≤ s.size
 e1 : s1 = s.extract 1 s.size
 f1 : FindV s1 k1
 e2 : s2 = s1.extract k1 s1.size
 f2 : FindV s2 k2
 e3 : s3 = s2.extract k2 s2.size
 f3 : FindV s3 k3
 e4 : s4 = s3.extract k3 s3.size
def partsR (s s1 s2 s3 s4 : ByteArray) (k1 k2 k3 : Nat) : Rcd := ⟨bn s 0, vvS s1 0 k1, vvS s2 0 k2, (vvS s3 0 k3 : Int) - 1, s4⟩
theorem ext_size (s : ByteArray) (k : Nat) : (s.extract k s.size).size = s.size - k := by simp
set_option maxHeartbeats 1000000 in
theorem readRecord_yes (s s1 s2 s3 s4 : ByteArray) (k1 k2 k3 : Nat) (w : World) (hs : s.size ≤ 1048576) (h : Parts s s1 s2 s3 s4 k1 k2 k3) :
  Calls Try.prog 26 #[.string s] w fun e w' => e = .returned (recV (partsR s s1 s2 s3 s4 k1 k2 k3)) ∧ Below w.heap.size w w' := by
 obtain ⟨h0, e1, f1, e2, f2, e3, f3, e4⟩ := h
 have z1 : s1.size = s.size - 1 := by rw [e1, ext_size]
 have z2 : s2.size = s1.size - k1 := by rw [e2, ext_size]
 have z3 : s3.size = s2.size - k2 := by rw [e3, ext_size]
 have z4 : s4.size = s3.size - k3 := by rw [e4, ext_size]
 have c0 := fun wx => impl_readFixed s 1 wx (by unfold maxLen; omega) (by omega) (by omega) h0
 rw [rdv_one] at c0
 have c1 := irv_yes s1 k1 (by omega) f1
 have c2 := irv_yes s2 k2 (by omega) f2
 have c3 := irv_yes s3 k3 (by omega) f3
 have u1 := f1.2.2.1
 have u2 := f2.2.2.1
 have u3 := f3.2.2.1
 have p1 : (0 : Int) < (k1 : Int) := by have := f1.1; omega
 have p2 : (0 : Int) < (k2 : Int) := by have := f2.1; omega
 have p3 : (0 : Int) < (k3 : Int) := by have := f3.1; omega
 have n1 : ((k1 : Int) == 0) = false := by simp; omega
 have n2 : ((k2 : Int) == 0) = false := by simp; omega
 have n3 : ((k3 : Int) == 0) = false := by simp; omega
 have i0 : (1 : Int) ≤ (s.size : Int) := by omega
 have i1 : (k1 : Int) ≤ (s1.size : Int) := by omega
 have i2 : (k2 : Int) ≤ (s2.size : Int) := by omega
 have i3 : (k3 : Int) ≤ (s3.size : Int) := by omega
 have v3 := vvS_le s3 k3 (by have := f3.2.1; omega) 0
 have HR : Hid (partsR s s1 s2 s3 s4 k1 k2 k3 = ⟨bn s 0, vvS s1 0 k1, vvS s2 0 k2, (vvS s3 0 k3 : Int) - 1, s4⟩) := rfl
 have c4 := fun wx => recordOfV ⟨bn s 0, vvS s1 0 k1, vvS s2 0 k2, (vvS s3 0 k3 : Int) - 1, s4⟩ wx (by simp only; unfold maxLen; omega)
 unfold vRcd at c4
 simp only at c4
 generalize vvS s1 0 k1 = a1 at *
 generalize vvS s2 0 k2 = a2 at *
 generalize vvS s3 0 k3 = a3 at *
 have hw : IntKind.i64.wrap ((a3 : Int) - 1) = (a3 : Int) - 1 := by rw [IntKind.wrap_i64]; omega
 have E1 : Hid (s1 = s.extract 1 s.size) := e1
 have E2 : Hid (s2 = s1.extract k1 s1.size) := e2
 have E3 : Hid (s3 = s2.extract k2 s2.size) := e3
 have E4 : Hid (s4 = s3.extract k3 s3.size) := e4
 clear f1 f2 f3 e1 e2 e3 e4 z1 z2 z3 z4
 go_enter Try.func26, Try.ntmps26
 go_wp2_with fail
 refine (c0 _).mono ?_
 rintro e w0 ⟨rfl, h0w⟩
 obtain rfl : w0 = w := by first | exact h0w | exact h0w.symm
 go_wp2_with fail
 refine wp_loop_rounds 4 ?_
 rw [rounds_succ]
 go_wp2_with fail
 rw [← E1.out]
 refine (c1 _).mono ?_
 rintro e w' ⟨rfl, rfl⟩
 go_wp2_with fail
 rw [rounds_succ]
 go_wp2_with fail
 rw [← E2.out]
 refine (c2 _).mono ?_
 rintro e w' ⟨rfl, rfl⟩
 go_wp2_with fail
 rw [rounds_succ]
 go_wp2_with fail
 rw [← E3.out]
 refine (c3 _).mono ?_
 rintro e w' ⟨rfl, rfl⟩
 go_wp2_with fail
 rw [rounds_succ]
 go_wp2_with fail
 rw [← E4.out]
 have hb0 : Below w0.heap.size w0 (w0.alloc (.cells #[.int .i64 (a1 : Int), .int .i64 (a2 : Int), .int .i64 (a3 : Int)] 84)) := (Below.refl _ _).alloc (Nat.le_refl _) _
 refine (c4 _).mono ?_
 rintro e w5 ⟨rfl, hb5⟩
 have B5 : Hid (Below w0.heap.size w0 w5) := hb0.trans (hb5.mono hb0.size)
 clear hb0 hb5 c4
 generalize hrv : recV ⟨(bn s 0 : Int), (a1 : Int), (a2 : Int), (a3 : Int) - 1, s4⟩ = rv at *
 go_wp2_with fail
 go_ret
 exact ⟨by rw [HR.out, hrv]; rfl, B5.out⟩
end Go.Proofs.Ytfmannphobjgpaa
