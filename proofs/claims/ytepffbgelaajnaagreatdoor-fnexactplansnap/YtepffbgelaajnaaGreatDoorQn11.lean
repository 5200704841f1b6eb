/- RcSpec RcImpl WkApp WtAid RcOf -/
import Derived.Test.YtepffbgelaajnaaGreatDoorQn1
import Derived.Test.YtepffbgelaajnaaGreatDoorRows
import Derived.Test.YtepffbgelaajnaaGreatDoorQn9
import Derived.Handy
import Derived.Test.YtepffbgelaajnaaGreatDoorQn3
import Derived.Deep.RegionWith
import Derived.OwnWalk
import Derived.Test.YtepffbgelaajnaaGreatDoorQn10
namespace Go.Proofs.YtepffbgelaajnaaGreatDoor
open Go.ChangeShapes Go.WideShapes Go.ChangeAt Go.RowKit Go.PlainAid
set_option linter.unusedVariables false
theorem empty_beq (d : ByteArray) : d.toList.isEmpty = decide (d = ByteArray.empty) := by
 have h := toList_beq d ByteArray.empty
 rw [← h]
 have : ByteArray.empty.toList = [] := by rw [Lib.toList_data]; rfl
 rw [this]
 cases d.toList <;> rfl
set_option maxHeartbeats 400000 in
theorem inBW (x lo hi : Int) (w : World) : Calls Tryz.prog 56 #[.int .i64 x, .int .i64 lo, .int .i64 hi] w fun e w' => e = .returned (.bool (inIt x lo hi)) ∧ w = w' := by
 by_cases h1 : lo ≤ x
 ·go_enter Tryz.func56, Tryz.ntmps56
  go_wp2
  go_ret
  exact ⟨by simp [inIt, h1], rfl⟩
 ·have z : decide (lo ≤ x) = false := decide_eq_false h1
  have z2 : x < lo := by omega
  go_enter Tryz.func56, Tryz.ntmps56
  go_wp2
  go_ret
  exact ⟨by unfold inIt; rw [z]; rfl, rfl⟩
set_option maxHeartbeats 400000 in
theorem basedV (i t : Int) (w : World) : Calls Tryz.prog 63 #[.int .i64 i, .int .i64 t] w fun e w' => e = .returned (.bool (based i t)) ∧ w = w' := by
 by_cases h1 : i = 0
 ·subst h1
  go_enter Tryz.func63, Tryz.ntmps63
  go_wp2
  go_ret
  exact ⟨by unfold based; rw [if_pos rfl]; exact congrArg (fun b => Ending.returned (.bool b)) (by by_cases h : t = 0 <;> simp [h]), rfl⟩
 ·have z : (i == 0) = false := by simpa using h1
  have a1 := inBW i 1 100000
  have a2 := inBW t 1 100000
  have HE : Hid (based i t = (inIt i 1 100000 && inIt t 1 100000)) := by unfold Hid based; rw [if_neg h1]
  cases h2 : inIt i 1 100000 <;> rw [h2] at a1 HE <;> clear h1 h2
  ·go_enter Tryz.func63, Tryz.ntmps63
   go_wp2_with fail
   refine (a1 _).mono ?_
   rintro e w' ⟨rfl, rfl⟩
   go_wp2_with fail
   go_ret
   exact ⟨by rw [HE.out]; rfl, rfl⟩
  ·go_enter Tryz.func63, Tryz.ntmps63
   go_wp2_with fail
   refine (a1 _).mono ?_
   rintro e w' ⟨rfl, rfl⟩
   go_wp2_with fail
   refine (a2 _).mono ?_
   rintro e w' ⟨rfl, rfl⟩
   go_wp2_with fail
   go_ret
   exact ⟨by rw [HE.out]; rfl, rfl⟩
set_option maxHeartbeats 2000000 in
theorem specRecOk (r : Rcd) (w : World) (hd : r.data.size ≤ maxLen) : Calls Tryz.prog 96 #[vRcd r] w fun e w' => e = .returned (.bool (recOk r)) ∧ Below w.heap.size w w' := by
 obtain ⟨k, t, i, v, d⟩ := r
 unfold vRcd
 simp only at hd ⊢
 have HB : Hid (Below w.heap.size w (w.alloc (.cells #[.int .i64 k, .int .i64 t, .int .i64 i, .int .i64 v, .string d] 116))) := (Below.refl _ _).alloc (Nat.le_refl _) _
 have HE : Hid (recOk ⟨k, t, i, v, d⟩ = if k = 1 then inIt t 0 100000 && inIt v (-1) 4 && decide (i = 0) && decide (d = ByteArray.empty)
  else if k = 2 then inIt t 1 100000 && inIt i 1 100000 && decide (v = 0) && decide (d.size ≤ 900)
  else if k = 3 then decide (t = 0) && inIt i 1 100000 && decide (v = 0) && decide (d = ByteArray.empty)
  else if k = 4 then based i t && decide (v = 0) && decide (d = ByteArray.empty)
  else false) := rfl
 by_cases k1 : k = 1
 ·subst k1
  rw [if_pos rfl] at HE
  have a4 := inBW t 0 100000
  cases h4 : inIt t 0 100000 <;> rw [h4] at a4 HE
  ·clear h4
   go_enter Tryz.func96, Tryz.ntmps96
   go_wp2_with fail
   refine (a4 _).mono ?_
   rintro e w' ⟨rfl, rfl⟩
   go_wp2_with fail
   go_ret
   exact ⟨by rw [HE.out]; rfl, HB.out⟩
  ·clear h4
   have a3 := inBW v (-1) 4
   cases h3 : inIt v (-1) 4 <;> rw [h3] at a3 HE
   ·clear h3
    go_enter Tryz.func96, Tryz.ntmps96
    go_wp2_with fail
    refine (a4 _).mono ?_
    rintro e w' ⟨rfl, rfl⟩
    go_wp2_with fail
    refine (a3 _).mono ?_
    rintro e w' ⟨rfl, rfl⟩
    go_wp2_with fail
    go_ret
    exact ⟨by rw [HE.out]; rfl, HB.out⟩
   ·clear h3
    by_cases h2 : i = 0
    ·subst h2
     rw [decide_eq_true rfl] at HE
     have hb := empty_beq d
     cases h1 : decide (d = ByteArray.empty) <;> rw [h1] at hb HE <;> clear h1
     ·go_enter Tryz.func96, Tryz.ntmps96
      go_wp2_with fail
      refine (a4 _).mono ?_
      rintro e w' ⟨rfl, rfl⟩
      go_wp2_with fail
      refine (a3 _).mono ?_
      rintro e w' ⟨rfl, rfl⟩
      go_wp2_with fail
      go_ret
      exact ⟨by rw [HE.out]; rfl, HB.out⟩
     ·go_enter Tryz.func96, Tryz.ntmps96
      go_wp2_with fail
      refine (a4 _).mono ?_
      rintro e w' ⟨rfl, rfl⟩
      go_wp2_with fail
      refine (a3 _).mono ?_
      rintro e w' ⟨rfl, rfl⟩
      go_wp2_with fail
      go_ret
      exact ⟨by rw [HE.out]; rfl, HB.out⟩
    ·have z2 : (i == 0) = false := by simpa using h2
     rw [decide_eq_false h2] at HE
     clear h2
     go_enter Tryz.func96, Tryz.ntmps96
     go_wp2_with fail
     refine (a4 _).mono ?_
     rintro e w' ⟨rfl, rfl⟩
     go_wp2_with fail
     refine (a3 _).mono ?_
     rintro e w' ⟨rfl, rfl⟩
     go_wp2_with fail
     go_ret
     exact ⟨by rw [HE.out]; rfl, HB.out⟩
 rw [if_neg k1] at HE
 have y1 : (k == 1) = false := by simpa using k1
 clear k1
 by_cases k2 : k = 2
 ·subst k2
  rw [if_pos rfl] at HE
  have a4 := inBW t 1 100000
  cases h4 : inIt t 1 100000 <;> rw [h4] at a4 HE
  ·clear h4
   go_enter Tryz.func96, Tryz.ntmps96
   go_wp2_with fail
   refine (a4 _).mono ?_
   rintro e w' ⟨rfl, rfl⟩
   go_wp2_with fail
   go_ret
   exact ⟨by rw [HE.out]; rfl, HB.out⟩
  ·clear h4
   have a3 := inBW i 1 100000
   cases h3 : inIt i 1 100000 <;> rw [h3] at a3 HE
   ·clear h3
    go_enter Tryz.func96, Tryz.ntmps96
    go_wp2_with fail
    refine (a4 _).mono ?_
    rintro e w' ⟨rfl, rfl⟩
    go_wp2_with fail
    refine (a3 _).mono ?_
    rintro e w' ⟨rfl, rfl⟩
    go_wp2_with fail
    go_ret
    exact ⟨by rw [HE.out]; rfl, HB.out⟩
   ·clear h3
    by_cases h2 : v = 0
    ·subst h2
     rw [decide_eq_true rfl] at HE
     have hz : decide ((d.size : Int) ≤ 900) = decide (d.size ≤ 900) := by rw [decide_eq_decide]; omega
     have hdi : (d.size : Int) ≤ 9223372036854775807 := by unfold maxLen at hd; omega
     cases h1 : decide (d.size ≤ 900) <;> rw [h1] at hz HE <;> clear h1
     ·go_enter Tryz.func96, Tryz.ntmps96
      go_wp2_with fail
      refine (a4 _).mono ?_
      rintro e w' ⟨rfl, rfl⟩
      go_wp2_with fail
      refine (a3 _).mono ?_
      rintro e w' ⟨rfl, rfl⟩
      go_wp2_with fail
      go_ret
      exact ⟨by rw [HE.out]; rfl, HB.out⟩
     ·go_enter Tryz.func96, Tryz.ntmps96
      go_wp2_with fail
      refine (a4 _).mono ?_
      rintro e w' ⟨rfl, rfl⟩
      go_wp2_with fail
      refine (a3 _).mono ?_
      rintro e w' ⟨rfl, rfl⟩
      go_wp2_with fail
      go_ret
      exact ⟨by rw [HE.out]; rfl, HB.out⟩
    ·have z2 : (v == 0) = false := by simpa using h2
     rw [decide_eq_false h2] at HE
     clear h2
     go_enter Tryz.func96, Tryz.ntmps96
     go_wp2_with fail
     refine (a4 _).mono ?_
     rintro e w' ⟨rfl, rfl⟩
     go_wp2_with fail
     refine (a3 _).mono ?_
     rintro e w' ⟨rfl, rfl⟩
     go_wp2_with fail
     go_ret
     exact ⟨by rw [HE.out]; rfl, HB.out⟩
 rw [if_neg k2] at HE
 have y2 : (k == 2) = false := by simpa using k2
 clear k2
 by_cases k3 : k = 3
 ·subst k3
  rw [if_pos rfl] at HE
  by_cases h4 : t = 0
  ·subst h4
   rw [decide_eq_true rfl] at HE
   have a3 := inBW i 1 100000
   cases h3 : inIt i 1 100000 <;> rw [h3] at a3 HE
   ·clear h3
    go_enter Tryz.func96, Tryz.ntmps96
    go_wp2_with fail
    refine (a3 _).mono ?_
    rintro e w' ⟨rfl, rfl⟩
    go_wp2_with fail
    go_ret
    exact ⟨by rw [HE.out]; rfl, HB.out⟩
   ·clear h3
    by_cases h2 : v = 0
    ·subst h2
     rw [decide_eq_true rfl] at HE
     have hb := empty_beq d
     cases h1 : decide (d = ByteArray.empty) <;> rw [h1] at hb HE <;> clear h1
     ·go_enter Tryz.func96, Tryz.ntmps96
      go_wp2_with fail
      refine (a3 _).mono ?_
      rintro e w' ⟨rfl, rfl⟩
      go_wp2_with fail
      go_ret
      exact ⟨by rw [HE.out]; rfl, HB.out⟩
     ·go_enter Tryz.func96, Tryz.ntmps96
      go_wp2_with fail
      refine (a3 _).mono ?_
      rintro e w' ⟨rfl, rfl⟩
      go_wp2_with fail
      go_ret
      exact ⟨by rw [HE.out]; rfl, HB.out⟩
    ·have z2 : (v == 0) = false := by simpa using h2
     rw [decide_eq_false h2] at HE
     clear h2
     go_enter Tryz.func96, Tryz.ntmps96
     go_wp2_with fail
     refine (a3 _).mono ?_
     rintro e w' ⟨rfl, rfl⟩
     go_wp2_with fail
     go_ret
     exact ⟨by rw [HE.out]; rfl, HB.out⟩
  ·have z4 : (t == 0) = false := by simpa using h4
   rw [decide_eq_false h4] at HE
   clear h4
   go_enter Tryz.func96, Tryz.ntmps96
   go_wp2_with fail
   go_ret
   exact ⟨by rw [HE.out]; rfl, HB.out⟩
 rw [if_neg k3] at HE
 have y3 : (k == 3) = false := by simpa using k3
 clear k3
 by_cases k4 : k = 4
 ·subst k4
  rw [if_pos rfl] at HE
  have a3 := basedV i t
  cases h3 : based i t <;> rw [h3] at a3 HE
  ·clear h3
   go_enter Tryz.func96, Tryz.ntmps96
   go_wp2_with fail
   refine (a3 _).mono ?_
   rintro e w' ⟨rfl, rfl⟩
   go_wp2_with fail
   go_ret
   exact ⟨by rw [HE.out]; rfl, HB.out⟩
  ·clear h3
   by_cases h2 : v = 0
   ·subst h2
    rw [decide_eq_true rfl] at HE
    have hb := empty_beq d
    cases h1 : decide (d = ByteArray.empty) <;> rw [h1] at hb HE <;> clear h1
    ·go_enter Tryz.func96, Tryz.ntmps96
     go_wp2_with fail
     refine (a3 _).mono ?_
     rintro e w' ⟨rfl, rfl⟩
     go_wp2_with fail
     go_ret
     exact ⟨by rw [HE.out]; rfl, HB.out⟩
    ·go_enter Tryz.func96, Tryz.ntmps96
     go_wp2_with fail
     refine (a3 _).mono ?_
     rintro e w' ⟨rfl, rfl⟩
     go_wp2_with fail
     go_ret
     exact ⟨by rw [HE.out]; rfl, HB.out⟩
   ·have z2 : (v == 0) = false := by simpa using h2
    rw [decide_eq_false h2] at HE
    clear h2
    go_enter Tryz.func96, Tryz.ntmps96
    go_wp2_with fail
    refine (a3 _).mono ?_
    rintro e w' ⟨rfl, rfl⟩
    go_wp2_with fail
    go_ret
    exact ⟨by rw [HE.out]; rfl, HB.out⟩
 rw [if_neg k4] at HE
 have y4 : (k == 4) = false := by simpa using k4
 clear k4
 go_enter Tryz.func96, Tryz.ntmps96
 go_wp2_with fail
 go_ret
 exact ⟨by rw [HE.out]; rfl, HB.out⟩
end Go.Proofs.YtepffbgelaajnaaGreatDoor
namespace Go.Proofs.YtepffbgelaajnaaGreatDoor
open Go.ChangeShapes Go.WideShapes Go.ChangeAt Go.RowKit Go.PlainAid
set_option linter.unusedVariables false
def bnd (k t i v n : Int) : Bool := decide ((k = 1 ∧ 0 ≤ t ∧ t ≤ 100000 ∧ -1 ≤ v ∧ v ≤ 4) ∨ (k = 4 ∧ i = 0 ∧ t = 0) ∨ ((k = 4 ∧ i ≠ 0 ∨ k = 2) ∧ 1 ≤ t ∧ t ≤ 100000 ∧ n ≤ 900 ∧ 1 ≤ i ∧ i ≤ 100000) ∨ (k = 3 ∧ 1 ≤ i ∧ i ≤ 100000))
def kindV (r : Rcd) : Value :=
 if r.kind = 1 then .iface 135 (.agg #[.int .i64 r.term, .int .i64 r.vote])
 else if r.kind = 2 then .iface 168 (.agg #[.int .i64 r.index, .int .i64 r.term, .string r.data])
 else if r.kind = 3 then .iface 180 (.agg #[.int .i64 r.index])
 else .iface 133 (.agg #[.int .i64 r.index, .int .i64 r.term])
set_option maxHeartbeats 4000000 in
theorem inBoundsV (k t i v : Int) (d : ByteArray) (w : World) (hd : d.size ≤ maxLen) : Calls Tryz.prog 111 #[.agg #[.int .i64 k, .int .i64 t, .int .i64 i, .int .i64 v, .string d]] w fun e w' => e = .returned (.bool (bnd k t i v d.size)) ∧ Below w.heap.size w w' := by
 have HB : Hid (Below w.heap.size w (w.alloc (.cells #[.int .i64 k, .int .i64 t, .int .i64 i, .int .i64 v, .string d] 116))) := (Below.refl _ _).alloc (Nat.le_refl _) _
 have hdi : (d.size : Int) ≤ 9223372036854775807 := by unfold maxLen at hd; omega
 clear hd
 by_cases k1 : k = 1
 ·subst k1
  by_cases h4 : 0 ≤ t
  ·by_cases h3 : t ≤ 100000
   ·by_cases h2 : -1 ≤ v
    ·by_cases h1 : v < 5
     ·go_enter Tryz.func111, Tryz.ntmps111
      go_wp2
      go_ret
      exact ⟨by first | (rw [show bnd _ _ _ _ _ = true from decide_eq_true (by omega)]; rfl) | (rw [show bnd _ _ _ _ _ = false from decide_eq_false (by omega)]; rfl), HB.out⟩
     ·go_enter Tryz.func111, Tryz.ntmps111
      go_wp2
      go_ret
      exact ⟨by first | (rw [show bnd _ _ _ _ _ = true from decide_eq_true (by omega)]; rfl) | (rw [show bnd _ _ _ _ _ = false from decide_eq_false (by omega)]; rfl), HB.out⟩
    ·go_enter Tryz.func111, Tryz.ntmps111
     go_wp2
     go_ret
     exact ⟨by first | (rw [show bnd _ _ _ _ _ = true from decide_eq_true (by omega)]; rfl) | (rw [show bnd _ _ _ _ _ = false from decide_eq_false (by omega)]; rfl), HB.out⟩
   ·go_enter Tryz.func111, Tryz.ntmps111
    go_wp2
    go_ret
    exact ⟨by first | (rw [show bnd _ _ _ _ _ = true from decide_eq_true (by omega)]; rfl) | (rw [show bnd _ _ _ _ _ = false from decide_eq_false (by omega)]; rfl), HB.out⟩
  ·go_enter Tryz.func111, Tryz.ntmps111
   go_wp2
   go_ret
   exact ⟨by first | (rw [show bnd _ _ _ _ _ = true from decide_eq_true (by omega)]; rfl) | (rw [show bnd _ _ _ _ _ = false from decide_eq_false (by omega)]; rfl), HB.out⟩
 by_cases k4 : k = 4
 ·subst k4
  by_cases i0 : i = 0
  ·subst i0
   by_cases t0 : t = 0
   ·subst t0
    go_enter Tryz.func111, Tryz.ntmps111
    go_wp2
    go_ret
    exact ⟨by first | (rw [show bnd _ _ _ _ _ = true from decide_eq_true (by omega)]; rfl) | (rw [show bnd _ _ _ _ _ = false from decide_eq_false (by omega)]; rfl), HB.out⟩
   ·have zt : (t == 0) = false := by simpa using t0
    go_enter Tryz.func111, Tryz.ntmps111
    go_wp2
    go_ret
    exact ⟨by first | (rw [show bnd _ _ _ _ _ = true from decide_eq_true (by omega)]; rfl) | (rw [show bnd _ _ _ _ _ = false from decide_eq_false (by omega)]; rfl), HB.out⟩
  ·have zi : (i == 0) = false := by simpa using i0
   by_cases g3 : t < 1
   ·go_enter Tryz.func111, Tryz.ntmps111
    go_wp2
    go_ret
    exact ⟨by first | (rw [show bnd _ _ _ _ _ = true from decide_eq_true (by omega)]; rfl) | (rw [show bnd _ _ _ _ _ = false from decide_eq_false (by omega)]; rfl), HB.out⟩
   ·by_cases g2 : 100000 < t
    ·go_enter Tryz.func111, Tryz.ntmps111
     go_wp2
     go_ret
     exact ⟨by first | (rw [show bnd _ _ _ _ _ = true from decide_eq_true (by omega)]; rfl) | (rw [show bnd _ _ _ _ _ = false from decide_eq_false (by omega)]; rfl), HB.out⟩
    ·by_cases g1 : 900 < (d.size : Int)
     ·go_enter Tryz.func111, Tryz.ntmps111
      go_wp2
      go_ret
      exact ⟨by first | (rw [show bnd _ _ _ _ _ = true from decide_eq_true (by omega)]; rfl) | (rw [show bnd _ _ _ _ _ = false from decide_eq_false (by omega)]; rfl), HB.out⟩
     ·by_cases h2 : 1 ≤ i
      ·by_cases h1 : i ≤ 100000
       ·go_enter Tryz.func111, Tryz.ntmps111
        go_wp2
        go_ret
        exact ⟨by first | (rw [show bnd _ _ _ _ _ = true from decide_eq_true (by omega)]; rfl) | (rw [show bnd _ _ _ _ _ = false from decide_eq_false (by omega)]; rfl), HB.out⟩
       ·go_enter Tryz.func111, Tryz.ntmps111
        go_wp2
        go_ret
        exact ⟨by first | (rw [show bnd _ _ _ _ _ = true from decide_eq_true (by omega)]; rfl) | (rw [show bnd _ _ _ _ _ = false from decide_eq_false (by omega)]; rfl), HB.out⟩
      ·go_enter Tryz.func111, Tryz.ntmps111
       go_wp2
       go_ret
       exact ⟨by first | (rw [show bnd _ _ _ _ _ = true from decide_eq_true (by omega)]; rfl) | (rw [show bnd _ _ _ _ _ = false from decide_eq_false (by omega)]; rfl), HB.out⟩
 by_cases k2 : k = 2
 ·subst k2
  by_cases g3 : t < 1
  ·go_enter Tryz.func111, Tryz.ntmps111
   go_wp2
   go_ret
   exact ⟨by first | (rw [show bnd _ _ _ _ _ = true from decide_eq_true (by omega)]; rfl) | (rw [show bnd _ _ _ _ _ = false from decide_eq_false (by omega)]; rfl), HB.out⟩
  ·by_cases g2 : 100000 < t
   ·go_enter Tryz.func111, Tryz.ntmps111
    go_wp2
    go_ret
    exact ⟨by first | (rw [show bnd _ _ _ _ _ = true from decide_eq_true (by omega)]; rfl) | (rw [show bnd _ _ _ _ _ = false from decide_eq_false (by omega)]; rfl), HB.out⟩
   ·by_cases g1 : 900 < (d.size : Int)
    ·go_enter Tryz.func111, Tryz.ntmps111
     go_wp2
     go_ret
     exact ⟨by first | (rw [show bnd _ _ _ _ _ = true from decide_eq_true (by omega)]; rfl) | (rw [show bnd _ _ _ _ _ = false from decide_eq_false (by omega)]; rfl), HB.out⟩
    ·by_cases h2 : 1 ≤ i
     ·by_cases h1 : i ≤ 100000
      ·go_enter Tryz.func111, Tryz.ntmps111
       go_wp2
       go_ret
       exact ⟨by first | (rw [show bnd _ _ _ _ _ = true from decide_eq_true (by omega)]; rfl) | (rw [show bnd _ _ _ _ _ = false from decide_eq_false (by omega)]; rfl), HB.out⟩
      ·go_enter Tryz.func111, Tryz.ntmps111
       go_wp2
       go_ret
       exact ⟨by first | (rw [show bnd _ _ _ _ _ = true from decide_eq_true (by omega)]; rfl) | (rw [show bnd _ _ _ _ _ = false from decide_eq_false (by omega)]; rfl), HB.out⟩
     ·go_enter Tryz.func111, Tryz.ntmps111
      go_wp2
      go_ret
      exact ⟨by first | (rw [show bnd _ _ _ _ _ = true from decide_eq_true (by omega)]; rfl) | (rw [show bnd _ _ _ _ _ = false from decide_eq_false (by omega)]; rfl), HB.out⟩
 by_cases k3 : k = 3
 ·subst k3
  by_cases h2 : 1 ≤ i
  ·by_cases h1 : i ≤ 100000
   ·go_enter Tryz.func111, Tryz.ntmps111
    go_wp2
    go_ret
    exact ⟨by first | (rw [show bnd _ _ _ _ _ = true from decide_eq_true (by omega)]; rfl) | (rw [show bnd _ _ _ _ _ = false from decide_eq_false (by omega)]; rfl), HB.out⟩
   ·go_enter Tryz.func111, Tryz.ntmps111
    go_wp2
    go_ret
    exact ⟨by first | (rw [show bnd _ _ _ _ _ = true from decide_eq_true (by omega)]; rfl) | (rw [show bnd _ _ _ _ _ = false from decide_eq_false (by omega)]; rfl), HB.out⟩
  ·go_enter Tryz.func111, Tryz.ntmps111
   go_wp2
   go_ret
   exact ⟨by first | (rw [show bnd _ _ _ _ _ = true from decide_eq_true (by omega)]; rfl) | (rw [show bnd _ _ _ _ _ = false from decide_eq_false (by omega)]; rfl), HB.out⟩
 have y1 : (k == 1) = false := by simpa using k1
 have y2 : (k == 2) = false := by simpa using k2
 have y3 : (k == 3) = false := by simpa using k3
 have y4 : (k == 4) = false := by simpa using k4
 go_enter Tryz.func111, Tryz.ntmps111
 go_wp2
 go_ret
 exact ⟨by first | (rw [show bnd _ _ _ _ _ = true from decide_eq_true (by omega)]; rfl) | (rw [show bnd _ _ _ _ _ = false from decide_eq_false (by omega)]; rfl), HB.out⟩
set_option maxHeartbeats 1000000 in
theorem kindOfV (k t i v : Int) (d : ByteArray) (w : World) : Calls Tryz.prog 112 #[.agg #[.int .i64 k, .int .i64 t, .int .i64 i, .int .i64 v, .string d]] w fun e w' => e = .returned (kindV ⟨k, t, i, v, d⟩) ∧ Below w.heap.size w w' := by
 have HB : Hid (Below w.heap.size w (w.alloc (.cells #[.int .i64 k, .int .i64 t, .int .i64 i, .int .i64 v, .string d] 116))) := (Below.refl _ _).alloc (Nat.le_refl _) _
 by_cases k1 : k = 1
 ·subst k1
  go_enter Tryz.func112, Tryz.ntmps112
  go_wp2
  go_ret
  exact ⟨rfl, HB.out⟩
 by_cases k2 : k = 2
 ·subst k2
  go_enter Tryz.func112, Tryz.ntmps112
  go_wp2
  go_ret
  exact ⟨rfl, HB.out⟩
 by_cases k3 : k = 3
 ·subst k3
  go_enter Tryz.func112, Tryz.ntmps112
  go_wp2
  go_ret
  exact ⟨rfl, HB.out⟩
 have y1 : (k == 1) = false := by simpa using k1
 have y2 : (k == 2) = false := by simpa using k2
 have y3 : (k == 3) = false := by simpa using k3
 have HE : Hid (kindV ⟨k, t, i, v, d⟩ = .iface 133 (.agg #[.int .i64 i, .int .i64 t])) := by unfold Hid kindV; rw [if_neg k1, if_neg k2, if_neg k3]
 clear k1 k2 k3
 go_enter Tryz.func112, Tryz.ntmps112
 go_wp2
 go_ret
 exact ⟨by rw [HE.out]; rfl, HB.out⟩
set_option maxHeartbeats 400000 in
theorem hardRec (t v : Int) (w : World) : Calls Tryz.prog 132 #[.agg #[.int .i64 t, .int .i64 v]] w fun e w' => e = .returned (.agg #[.int .i64 1, .int .i64 t, .int .i64 0, .int .i64 v, .string ⟨#[]⟩]) ∧ Below w.heap.size w w' := by
 go_enter Tryz.func132, Tryz.ntmps132
 go_wp2
 exact bodyPost_ret (v := .agg #[.int .i64 1, .int .i64 t, .int .i64 0, .int .i64 v, .string ⟨#[]⟩]) (by simp [results, go_sem]) rfl ⟨rfl, below_alloc2' _ _ _⟩
set_option maxHeartbeats 400000 in
theorem entryRec (i t : Int) (d : ByteArray) (w : World) : Calls Tryz.prog 134 #[.agg #[.int .i64 i, .int .i64 t, .string d]] w fun e w' => e = .returned (.agg #[.int .i64 2, .int .i64 t, .int .i64 i, .int .i64 0, .string d]) ∧ Below w.heap.size w w' := by
 go_enter Tryz.func134, Tryz.ntmps134
 go_wp2
 exact bodyPost_ret (v := .agg #[.int .i64 2, .int .i64 t, .int .i64 i, .int .i64 0, .string d]) (by simp [results, go_sem]) rfl ⟨rfl, below_alloc2' _ _ _⟩
set_option maxHeartbeats 400000 in
theorem cutRec (i : Int) (w : World) : Calls Tryz.prog 135 #[.agg #[.int .i64 i]] w fun e w' => e = .returned (.agg #[.int .i64 3, .int .i64 0, .int .i64 i, .int .i64 0, .string ⟨#[]⟩]) ∧ Below w.heap.size w w' := by
 go_enter Tryz.func135, Tryz.ntmps135
 go_wp2
 exact bodyPost_ret (v := .agg #[.int .i64 3, .int .i64 0, .int .i64 i, .int .i64 0, .string ⟨#[]⟩]) (by simp [results, go_sem]) rfl ⟨rfl, below_alloc2' _ _ _⟩
set_option maxHeartbeats 400000 in
theorem baseRec (i t : Int) (w : World) : Calls Tryz.prog 131 #[.agg #[.int .i64 i, .int .i64 t]] w fun e w' => e = .returned (.agg #[.int .i64 4, .int .i64 t, .int .i64 i, .int .i64 0, .string ⟨#[]⟩]) ∧ Below w.heap.size w w' := by
 go_enter Tryz.func131, Tryz.ntmps131
 go_wp2
 exact bodyPost_ret (v := .agg #[.int .i64 4, .int .i64 t, .int .i64 i, .int .i64 0, .string ⟨#[]⟩]) (by simp [results, go_sem]) rfl ⟨rfl, below_alloc2' _ _ _⟩
end Go.Proofs.YtepffbgelaajnaaGreatDoor
namespace Go.Proofs.YtepffbgelaajnaaGreatDoor
open Go.RowKit Go.PlainAid
theorem Owns.first {w : World} {base : Nat} {e : TypeId} {sz : Nat} {A : Option Addr} {n c : Nat} {rows : List (List Value)} (h : Owns w base e sz (.slice A n c) rows) (k : Nat) (hk : k ≤ rows.length) : Owns w base e sz (.slice A k c) (rows.take k) := by
 obtain ⟨hs, hl, h⟩ := h
 have hkl : (rows.take k).length = k := by rw [List.length_take]; omega
 have hs' : ∀ r ∈ rows.take k, r.length = sz := fun r hr => hs r (List.mem_of_mem_take hr)
 have hft : (rows.take k).flatten = rows.flatten.take (k * sz) := by
  have h1 : rows.flatten = (rows.take k).flatten ++ (rows.drop k).flatten := by rw [← List.flatten_append, List.take_append_drop]
  have hl2 : (rows.take k).flatten.length = k * sz := by rw [flat_length sz _ hs', hkl]
  rw [h1]
  exact (List.take_left' hl2).symm
 refine ⟨hs', ?_, ?_⟩
 ·rw [flat_length sz _ hs']
 rcases h with ⟨e1, h0⟩ | ⟨g, cap, cur, e1, hb, hh, hn, hm, hz, ht⟩
 ·cases e1
  have : k = 0 := by omega
  subst this
  exact .inl ⟨rfl, by simp⟩
 ·cases e1
  refine .inr ⟨g, c, cur, by rw [hkl], hb, hh, by rw [hkl]; omega, hm, hz, ?_⟩
  rw [hkl, hft, ← ht, List.take_take]
  congr 1
  have : k * sz ≤ rows.length * sz := Nat.mul_le_mul_right sz hk
  omega
end Go.Proofs.YtepffbgelaajnaaGreatDoor
namespace Go.Proofs.YtepffbgelaajnaaGreatDoor
open Go.ChangeShapes Go.WideShapes Go.ChangeAt Go.RowKit Go.PlainAid
set_option linter.unusedVariables false
def recAt (x : Wl) (i : Nat) : Rcd := ⟨2, (x.ents.getD i default).term, x.base + 1 + (i : Int), 0, (x.ents.getD i default).data⟩
def entRecs (x : Wl) (k : Nat) : List Rcd := (List.range k).map (recAt x)
theorem entRecs_succ (x : Wl) (k : Nat) : entRecs x (k + 1) = entRecs x k ++ [recAt x k] := by simp [entRecs, List.range_succ]
theorem entRecs_length (x : Wl) (k : Nat) : (entRecs x k).length = k := by simp [entRecs]
def kindR (l : List Rcd) : List (List Value) := l.map fun r => [kindV r]
theorem kindR_append (a b : List Rcd) : kindR (a ++ b) = kindR a ++ kindR b := by simp [kindR]
theorem kindR_length (l : List Rcd) : (kindR l).length = l.length := by simp [kindR]
theorem kindV_at (x : Wl) (i : Nat) : kindV (recAt x i) = .iface 168 (.agg #[.int .i64 (x.base + 1 + (i : Int)), .int .i64 (x.ents.getD i default).term, .string (x.ents.getD i default).data]) := by
 unfold kindV recAt
 simp
theorem Tryz.infoRec : (Tryz.prog.info? 143).map (fun i => (i.zero, i.size, i.bytes)) = some (some .nilIface, 1, 16) := by kernel_rfl
set_option maxRecDepth 20000 in
set_option maxHeartbeats 4000000 in
theorem entriesV (x : Wl) (v : Value) (w : World) (B : Nat) (hv : WalV w B v x) (hn : x.ents.length ≤ 60) (hb0 : 0 ≤ x.base) (hb1 : x.base ≤ 100000) (hB : B ≤ w.heap.size) :
  Calls Tryz.prog 78 #[v, .int .i64 0] w fun e w' => ∃ u, e = .returned u ∧ Owns w' w.heap.size 143 1 u (kindR (entRecs x x.ents.length)) ∧ Below w.heap.size w w' := by
 obtain ⟨u, rfl, hl⟩ := hv
 obtain ⟨A, cap, rfl, hlk⟩ := ent_look hl
 have HCAP : Hid (x.ents.length ≤ cap) := by
  obtain ⟨A', cap', e, ⟨_, h2⟩, _⟩ := hl
  injection e with _ e2 e3
  unfold Hid
  rw [e3, e2]
  exact h2
 have HL : Hid (∀ j, j < x.ents.length → ∃ g off, A = some ⟨g, off, none⟩ ∧ g < B ∧ _) := hlk
 have HB : Hid (B ≤ w.heap.size) := hB
 have q1 : (x.ents.length : Int) ≤ 60 := by omega
 have q1c : (x.ents.length : Int) ≤ (cap : Int) := by have := HCAP.out; omega
 clear hl hlk hB hn
 generalize hN : x.ents.length = n at *
 go_enter Tryz.func78, Tryz.ntmps78
 go_wp2_with fail
 have h0 : Below w.heap.size w (w.alloc (.cells #[.int .i64 x.term, .int .i64 x.vote, .int .i64 x.base, .int .i64 x.bterm, .slice A n cap] 42)) := (Below.refl _ w).alloc (Nat.le_refl _) _
 have bA := Blk.new w #[.int .i64 x.term, .int .i64 x.vote, .int .i64 x.base, .int .i64 x.bterm, .slice A n cap] 42
 generalize w.alloc (.cells #[.int .i64 x.term, .int .i64 x.vote, .int .i64 x.base, .int .i64 x.bterm, .slice A n cap] 42) = W at *
 go_loopw [5, 13] (fun v5 v13 wr => ∃ k : Nat, k ≤ n ∧ v13 = .int .i64 (k : Int) ∧ Owns wr (w.heap.size + 1) 143 1 v5 (kindR (entRecs x k)) ∧ Below w.heap.size w wr ∧ Blk wr w.heap.size #[.int .i64 x.term, .int .i64 x.vote, .int .i64 x.base, .int .i64 x.bterm, .slice A n cap] 42) (fun _ i _ => n - (intOf i).toNat)
 case atStart => exact ⟨0, by omega, rfl, Owns.nil _ _ _ _, h0, bA⟩
 case round =>
  obtain ⟨k, hk, rfl, hO, hb, hbl⟩ := hrel
  have HO : Hid (Owns wr (w.heap.size + 1) 143 1 _ (kindR (entRecs x k))) := hO
  have HB1 : Hid (Below w.heap.size w wr) := hb
  have KA : Hid (Blk wr w.heap.size #[.int .i64 x.term, .int .i64 x.vote, .int .i64 x.base, .int .i64 x.bterm, .slice A n cap] 42) := hbl
  obtain ⟨sA, sm, sc, rfl⟩ := hO.shape
  clear hO hb hbl h0 bA
  by_cases hlt : k < n
  ·have q4 : (k : Int) < (n : Int) := by omega
   obtain ⟨g, off, rfl, hg, hc0, hc1⟩ := HL.out k (by omega)
   have hgw : g < w.heap.size := Nat.lt_of_lt_of_le hg HB.out
   rw [← HB1.out.cell (p := ⟨_, _, none⟩) hgw] at hc0 hc1
   have hkv := kindV_at x k
   have HR : Hid (kindR (entRecs x k) ++ [[kindV (recAt x k)]] = kindR (entRecs x (k + 1))) := by unfold Hid; rw [entRecs_succ, kindR_append]; rfl
   have HLN : Hid ((kindR (entRecs x k)).length ≤ 2097152) := by unfold Hid; rw [kindR_length, entRecs_length]; omega
   generalize x.ents.getD k default = y at *
   obtain ⟨yt, yd⟩ := y
   simp only at hc0 hc1 hkv
   have z1 : wrap64 (x.base + 0) = x.base := by unfold wrap64; omega
   have z2 : wrap64 (x.base + (k : Int)) = x.base + (k : Int) := by unfold wrap64; omega
   have z3 : wrap64 (x.base + (k : Int) + 1) = x.base + (k : Int) + 1 := by unfold wrap64; omega
   have z4 : wrap64 x.base = x.base := by unfold wrap64; omega
   have hkv2 : Hid (.iface 168 (.agg #[.int .i64 (x.base + (k : Int) + 1), .int .i64 yt, .string yd]) = kindV (recAt x k)) := by unfold Hid; rw [hkv, show x.base + (k : Int) + 1 = x.base + 1 + (k : Int) by omega]
   have kE := Blk.new wr #[.int .i64 yt, .string yd] 110
   have kW := KA.out.alloc (.cells #[.int .i64 yt, .string yd] 110)
   have e0 := kE.cell 0 (.int .i64 yt) rfl
   have e1 := kE.cell 1 (.string yd) rfl
   have e2 := kW.cell 2 (.int .i64 x.base) rfl
   have hos := HO.out.alloc (.cells #[.int .i64 yt, .string yd] 110)
   have hW1 : Below w.heap.size w (wr.alloc (.cells #[.int .i64 yt, .string yd] 110)) := HB1.out.alloc HB1.out.size _
   have hsz : w.heap.size + 1 ≤ (wr.alloc (.cells #[.int .i64 yt, .string yd] 110)).heap.size := kW.lt
   clear hkv kE
   go_wp2_with (at_builtin; refine wpList_append_row rfl (.tmp 18) (.tmp 29) 136 143 .nilIface 1 16 rfl Tryz.underlying136 Tryz.infoRec rfl (by omega) (w.heap.size + 1) _ (kindR (entRecs x k)) rfl hos [.iface 168 (.agg #[.int .i64 (x.base + (k : Int) + 1), .int .i64 yt, .string yd])] rfl (by intro y hy; simp at hy; subst hy; rfl) (by rw [World.size_alloc]; rfl) HLN.out (by omega) hsz ?_; intro v' w4 hO4 hb4 hk4 _)
   rw [hkv2.out, HR.out] at hO4
   have kW4 := kW.on hb4 (by omega)
   have hB4 : Below w.heap.size w w4 := hW1.trans (hb4.mono (by omega))
   go_roundw
   case rel => exact ⟨k + 1, by omega, by go_num, hO4, hB4, kW4⟩
   case measure => simp [intOf]; omega
  ·obtain rfl : k = n := by omega
   go_wp2_with fail
   go_ret
   exact ⟨_, rfl, HO.out.mono (by omega), HB1.out⟩
end Go.Proofs.YtepffbgelaajnaaGreatDoor
namespace Go.Proofs.YtepffbgelaajnaaGreatDoor
open Go.ChangeShapes Go.WideShapes Go.ChangeAt Go.RowKit Go.PlainAid
set_option linter.unusedVariables false
def recV (r : Rcd) : Value := if recOk r = true then kindV r else .nilIface
def rest0 (k t i v : Int) (d : ByteArray) : Bool :=
 if k = 1 then decide (i = 0) && decide (d = ByteArray.empty) else if k = 2 then decide (v = 0)
 else if k = 3 then decide (t = 0) && decide (v = 0) && decide (d = ByteArray.empty) else decide (v = 0) && decide (d = ByteArray.empty)
theorem recOk_iff (k t i v : Int) (d : ByteArray) : recOk ⟨k, t, i, v, d⟩ = (bnd k t i v d.size && rest0 k t i v d) := by
 rw [Bool.eq_iff_iff]
 unfold recOk bnd rest0 based inIt
 have hz : d = ByteArray.empty → (d.size : Int) = 0 := fun h => by subst h; rfl
 by_cases k1 : k = 1
 ·subst k1
  simp
  constructor <;> intro h <;> simp [h]
 by_cases k2 : k = 2
 ·subst k2
  simp
  omega
 by_cases k3 : k = 3
 ·subst k3
  simp
  constructor <;> intro h <;> simp [h]
 by_cases k4 : k = 4
 ·subst k4
  by_cases hd : d = ByteArray.empty
  ·have := hz hd
   by_cases hi : i = 0
   ·subst hi
    simp [hd]
   ·simp [hd, hi]
    omega
  ·simp [hd]
 ·simp [k1, k2, k3, k4]
theorem empty_eqs (d : ByteArray) : ([] == d.toList) = decide (d = ByteArray.empty) := by
 rw [← empty_beq]
 cases d.toList <;> rfl
set_option maxHeartbeats 1000000 in
theorem recordOf_no (k t i v : Int) (d : ByteArray) (w : World) (hd : d.size ≤ maxLen) (hn : bnd k t i v d.size = false) : Calls Tryz.prog 103 #[.agg #[.int .i64 k, .int .i64 t, .int .i64 i, .int .i64 v, .string d]] w fun e w' => e = .returned .nilIface ∧ Below w.heap.size w w' := by
 have c1 := fun wx => inBoundsV k t i v d wx hd
 rw [hn] at c1
 have hb0 : Below w.heap.size w (w.alloc (.cells #[.int .i64 k, .int .i64 t, .int .i64 i, .int .i64 v, .string d] 116)) := (Below.refl _ _).alloc (Nat.le_refl _) _
 go_enter Tryz.func103, Tryz.ntmps103
 go_wp2_with fail
 generalize w.alloc (.cells #[.int .i64 k, .int .i64 t, .int .i64 i, .int .i64 v, .string d] 116) = W at *
 refine (c1 _).mono ?_
 rintro e w1 ⟨rfl, hb1⟩
 have B1 : Hid (Below w.heap.size w w1) := hb0.trans (hb1.mono hb0.size)
 clear hb0 hb1 c1
 go_wp2_with fail
 go_ret
 exact ⟨rfl, B1.out⟩
set_option maxHeartbeats 2000000 in
theorem recordOf_hard (t i v : Int) (d : ByteArray) (w : World) (hd : d.size ≤ maxLen) (hn : bnd 1 t i v d.size = true) : Calls Tryz.prog 103 #[.agg #[.int .i64 1, .int .i64 t, .int .i64 i, .int .i64 v, .string d]] w fun e w' => e = .returned (recV ⟨1, t, i, v, d⟩) ∧ Below w.heap.size w w' := by
 have HE : Hid (recV ⟨1, t, i, v, d⟩ = if (decide (i = 0) && decide (d = ByteArray.empty)) = true then kindV ⟨1, t, i, v, d⟩ else .nilIface) := by unfold Hid recV; rw [recOk_iff, hn, Bool.true_and]; rfl
 have c1 := fun wx => inBoundsV 1 t i v d wx hd
 rw [hn] at c1
 have c2 := fun wx => kindOfV 1 t i v d wx
 have c3 := fun wx => hardRec t v wx
 have hb0 : Below w.heap.size w (w.alloc (.cells #[.int .i64 1, .int .i64 t, .int .i64 i, .int .i64 v, .string d] 116)) := (Below.refl _ _).alloc (Nat.le_refl _) _
 have k0 := Blk.new w #[.int .i64 1, .int .i64 t, .int .i64 i, .int .i64 v, .string d] 116
 clear hd hn
 go_enter Tryz.func103, Tryz.ntmps103
 go_wp2_with fail
 generalize w.alloc (.cells #[.int .i64 1, .int .i64 t, .int .i64 i, .int .i64 v, .string d] 116) = W at *
 refine (c1 _).mono ?_
 rintro e w1 ⟨rfl, hb1⟩
 have B1 : Hid (Below w.heap.size w w1) := hb0.trans (hb1.mono hb0.size)
 have k1 := k0.on hb1 k0.lt
 clear hb0 hb1 c1 k0
 have e0 := k1.cell 0 (.int .i64 1) rfl
 have e1 := k1.cell 1 (.int .i64 t) rfl
 have e2 := k1.cell 2 (.int .i64 i) rfl
 have e3 := k1.cell 3 (.int .i64 v) rfl
 have e4 := k1.cell 4 (.string d) rfl
 have K1 : Hid (Blk w1 w.heap.size _ _) := k1
 clear k1
 go_wp2_with fail
 refine (c2 _).mono ?_
 rintro e w2 ⟨rfl, hb2⟩
 have B2 : Hid (Below w.heap.size w w2) := B1.out.trans (hb2.mono B1.out.size)
 have k2 := K1.out.on hb2 K1.out.lt
 have hlt : w.heap.size < w2.heap.size := k2.lt
 clear hb2 e0 e1 e2 e3 e4 K1 B1
 have e0 := k2.cell 0 (.int .i64 1) rfl
 have e1 := k2.cell 1 (.int .i64 t) rfl
 have e2 := k2.cell 2 (.int .i64 i) rfl
 have e3 := k2.cell 3 (.int .i64 v) rfl
 have e4 := k2.cell 4 (.string d) rfl
 clear k2 c2
 rw [show kindV ⟨1, t, i, v, d⟩ = .iface 135 (.agg #[.int .i64 t, .int .i64 v]) from rfl]
 by_cases hzi : i = 0
 ·subst hzi
  rw [decide_eq_true rfl] at HE
  have hb1 := empty_beq d
  have hb2 := empty_eqs d
  cases hdd : decide (d = ByteArray.empty) <;> rw [hdd] at hb1 hb2 HE <;> clear hdd
  ·have HE : Hid (recV ⟨1, t, 0, v, d⟩ = .nilIface) := by unfold Hid; rw [HE.out]; rfl
   go_wp2_with fail
   go_region_with (go_at_call 132; refine (c3 _).mono ?_; rintro e w3 ⟨rfl, hb3⟩; have a0 := (hb3.cell (p := ⟨w.heap.size, 0, none⟩) hlt).trans e0; have a1 := (hb3.cell (p := ⟨w.heap.size, 1, none⟩) hlt).trans e1; have a2 := (hb3.cell (p := ⟨w.heap.size, 2, none⟩) hlt).trans e2; have a3 := (hb3.cell (p := ⟨w.heap.size, 3, none⟩) hlt).trans e3; have a4 := (hb3.cell (p := ⟨w.heap.size, 4, none⟩) hlt).trans e4)
   all_goals go_wp2_with fail
   all_goals go_ret
   all_goals exact ⟨by rw [HE.out]; first | rfl | simp [kindV], B2.out.trans (((Below.refl _ w2).drew.trans hb3).mono B2.out.size)⟩
  ·have HE : Hid (recV ⟨1, t, 0, v, d⟩ = kindV ⟨1, t, 0, v, d⟩) := by unfold Hid; rw [HE.out]; rfl
   go_wp2_with fail
   go_region_with (go_at_call 132; refine (c3 _).mono ?_; rintro e w3 ⟨rfl, hb3⟩; have a0 := (hb3.cell (p := ⟨w.heap.size, 0, none⟩) hlt).trans e0; have a1 := (hb3.cell (p := ⟨w.heap.size, 1, none⟩) hlt).trans e1; have a2 := (hb3.cell (p := ⟨w.heap.size, 2, none⟩) hlt).trans e2; have a3 := (hb3.cell (p := ⟨w.heap.size, 3, none⟩) hlt).trans e3; have a4 := (hb3.cell (p := ⟨w.heap.size, 4, none⟩) hlt).trans e4)
   all_goals go_wp2_with fail
   all_goals go_ret
   all_goals exact ⟨by rw [HE.out]; first | rfl | simp [kindV], B2.out.trans (((Below.refl _ w2).drew.trans hb3).mono B2.out.size)⟩
 ·rw [decide_eq_false hzi] at HE
  have HE : Hid (recV ⟨1, t, i, v, d⟩ = .nilIface) := by unfold Hid; rw [HE.out]; first | rfl | simp
  have zi : ((0 : Int) == i) = false := by simpa using Ne.symm hzi
  go_wp2_with fail
  go_region_with (go_at_call 132; refine (c3 _).mono ?_; rintro e w3 ⟨rfl, hb3⟩; have a0 := (hb3.cell (p := ⟨w.heap.size, 0, none⟩) hlt).trans e0; have a1 := (hb3.cell (p := ⟨w.heap.size, 1, none⟩) hlt).trans e1; have a2 := (hb3.cell (p := ⟨w.heap.size, 2, none⟩) hlt).trans e2; have a3 := (hb3.cell (p := ⟨w.heap.size, 3, none⟩) hlt).trans e3; have a4 := (hb3.cell (p := ⟨w.heap.size, 4, none⟩) hlt).trans e4)
  all_goals go_wp2_with fail
  all_goals go_ret
  all_goals exact ⟨by rw [HE.out]; first | rfl | simp [kindV], B2.out.trans (((Below.refl _ w2).drew.trans hb3).mono B2.out.size)⟩
set_option maxHeartbeats 2000000 in
theorem recordOf_entry (t i v : Int) (d : ByteArray) (w : World) (hd : d.size ≤ maxLen) (hn : bnd 2 t i v d.size = true) : Calls Tryz.prog 103 #[.agg #[.int .i64 2, .int .i64 t, .int .i64 i, .int .i64 v, .string d]] w fun e w' => e = .returned (recV ⟨2, t, i, v, d⟩) ∧ Below w.heap.size w w' := by
 have HE : Hid (recV ⟨2, t, i, v, d⟩ = if (decide (v = 0)) = true then kindV ⟨2, t, i, v, d⟩ else .nilIface) := by unfold Hid recV; rw [recOk_iff, hn, Bool.true_and]; rfl
 have c1 := fun wx => inBoundsV 2 t i v d wx hd
 rw [hn] at c1
 have c2 := fun wx => kindOfV 2 t i v d wx
 have c3 := fun wx => entryRec i t d wx
 have hb0 : Below w.heap.size w (w.alloc (.cells #[.int .i64 2, .int .i64 t, .int .i64 i, .int .i64 v, .string d] 116)) := (Below.refl _ _).alloc (Nat.le_refl _) _
 have k0 := Blk.new w #[.int .i64 2, .int .i64 t, .int .i64 i, .int .i64 v, .string d] 116
 clear hd hn
 go_enter Tryz.func103, Tryz.ntmps103
 go_wp2_with fail
 generalize w.alloc (.cells #[.int .i64 2, .int .i64 t, .int .i64 i, .int .i64 v, .string d] 116) = W at *
 refine (c1 _).mono ?_
 rintro e w1 ⟨rfl, hb1⟩
 have B1 : Hid (Below w.heap.size w w1) := hb0.trans (hb1.mono hb0.size)
 have k1 := k0.on hb1 k0.lt
 clear hb0 hb1 c1 k0
 have e0 := k1.cell 0 (.int .i64 2) rfl
 have e1 := k1.cell 1 (.int .i64 t) rfl
 have e2 := k1.cell 2 (.int .i64 i) rfl
 have e3 := k1.cell 3 (.int .i64 v) rfl
 have e4 := k1.cell 4 (.string d) rfl
 have K1 : Hid (Blk w1 w.heap.size _ _) := k1
 clear k1
 go_wp2_with fail
 refine (c2 _).mono ?_
 rintro e w2 ⟨rfl, hb2⟩
 have B2 : Hid (Below w.heap.size w w2) := B1.out.trans (hb2.mono B1.out.size)
 have k2 := K1.out.on hb2 K1.out.lt
 have hlt : w.heap.size < w2.heap.size := k2.lt
 clear hb2 e0 e1 e2 e3 e4 K1 B1
 have e0 := k2.cell 0 (.int .i64 2) rfl
 have e1 := k2.cell 1 (.int .i64 t) rfl
 have e2 := k2.cell 2 (.int .i64 i) rfl
 have e3 := k2.cell 3 (.int .i64 v) rfl
 have e4 := k2.cell 4 (.string d) rfl
 clear k2 c2
 rw [show kindV ⟨2, t, i, v, d⟩ = .iface 168 (.agg #[.int .i64 i, .int .i64 t, .string d]) from rfl]
 by_cases hzv : v = 0
 ·subst hzv
  rw [decide_eq_true rfl] at HE
  have HE : Hid (recV ⟨2, t, i, 0, d⟩ = kindV ⟨2, t, i, 0, d⟩) := by unfold Hid; rw [HE.out]; rfl
  go_wp2_with fail
  go_region_with (go_at_call 134; refine (c3 _).mono ?_; rintro e w3 ⟨rfl, hb3⟩; have a0 := (hb3.cell (p := ⟨w.heap.size, 0, none⟩) hlt).trans e0; have a1 := (hb3.cell (p := ⟨w.heap.size, 1, none⟩) hlt).trans e1; have a2 := (hb3.cell (p := ⟨w.heap.size, 2, none⟩) hlt).trans e2; have a3 := (hb3.cell (p := ⟨w.heap.size, 3, none⟩) hlt).trans e3; have a4 := (hb3.cell (p := ⟨w.heap.size, 4, none⟩) hlt).trans e4)
  all_goals go_wp2_with fail
  all_goals go_ret
  all_goals exact ⟨by rw [HE.out]; first | rfl | simp [kindV], B2.out.trans (((Below.refl _ w2).drew.trans hb3).mono B2.out.size)⟩
 ·rw [decide_eq_false hzv] at HE
  have HE : Hid (recV ⟨2, t, i, v, d⟩ = .nilIface) := by unfold Hid; rw [HE.out]; first | rfl | simp
  have zv : ((0 : Int) == v) = false := by simpa using Ne.symm hzv
  go_wp2_with fail
  go_region_with (go_at_call 134; refine (c3 _).mono ?_; rintro e w3 ⟨rfl, hb3⟩; have a0 := (hb3.cell (p := ⟨w.heap.size, 0, none⟩) hlt).trans e0; have a1 := (hb3.cell (p := ⟨w.heap.size, 1, none⟩) hlt).trans e1; have a2 := (hb3.cell (p := ⟨w.heap.size, 2, none⟩) hlt).trans e2; have a3 := (hb3.cell (p := ⟨w.heap.size, 3, none⟩) hlt).trans e3; have a4 := (hb3.cell (p := ⟨w.heap.size, 4, none⟩) hlt).trans e4)
  all_goals go_wp2_with fail
  all_goals go_ret
  all_goals exact ⟨by rw [HE.out]; first | rfl | simp [kindV], B2.out.trans (((Below.refl _ w2).drew.trans hb3).mono B2.out.size)⟩
set_option maxHeartbeats 2000000 in
theorem recordOf_cut (t i v : Int) (d : ByteArray) (w : World) (hd : d.size ≤ maxLen) (hn : bnd 3 t i v d.size = true) : Calls Tryz.prog 103 #[.agg #[.int .i64 3, .int .i64 t, .int .i64 i, .int .i64 v, .string d]] w fun e w' => e = .returned (recV ⟨3, t, i, v, d⟩) ∧ Below w.heap.size w w' := by
 have HE : Hid (recV ⟨3, t, i, v, d⟩ = if (decide (t = 0) && decide (v = 0) && decide (d = ByteArray.empty)) = true then kindV ⟨3, t, i, v, d⟩ else .nilIface) := by unfold Hid recV; rw [recOk_iff, hn, Bool.true_and]; rfl
 have c1 := fun wx => inBoundsV 3 t i v d wx hd
 rw [hn] at c1
 have c2 := fun wx => kindOfV 3 t i v d wx
 have c3 := fun wx => cutRec i wx
 have hb0 : Below w.heap.size w (w.alloc (.cells #[.int .i64 3, .int .i64 t, .int .i64 i, .int .i64 v, .string d] 116)) := (Below.refl _ _).alloc (Nat.le_refl _) _
 have k0 := Blk.new w #[.int .i64 3, .int .i64 t, .int .i64 i, .int .i64 v, .string d] 116
 clear hd hn
 go_enter Tryz.func103, Tryz.ntmps103
 go_wp2_with fail
 generalize w.alloc (.cells #[.int .i64 3, .int .i64 t, .int .i64 i, .int .i64 v, .string d] 116) = W at *
 refine (c1 _).mono ?_
 rintro e w1 ⟨rfl, hb1⟩
 have B1 : Hid (Below w.heap.size w w1) := hb0.trans (hb1.mono hb0.size)
 have k1 := k0.on hb1 k0.lt
 clear hb0 hb1 c1 k0
 have e0 := k1.cell 0 (.int .i64 3) rfl
 have e1 := k1.cell 1 (.int .i64 t) rfl
 have e2 := k1.cell 2 (.int .i64 i) rfl
 have e3 := k1.cell 3 (.int .i64 v) rfl
 have e4 := k1.cell 4 (.string d) rfl
 have K1 : Hid (Blk w1 w.heap.size _ _) := k1
 clear k1
 go_wp2_with fail
 refine (c2 _).mono ?_
 rintro e w2 ⟨rfl, hb2⟩
 have B2 : Hid (Below w.heap.size w w2) := B1.out.trans (hb2.mono B1.out.size)
 have k2 := K1.out.on hb2 K1.out.lt
 have hlt : w.heap.size < w2.heap.size := k2.lt
 clear hb2 e0 e1 e2 e3 e4 K1 B1
 have e0 := k2.cell 0 (.int .i64 3) rfl
 have e1 := k2.cell 1 (.int .i64 t) rfl
 have e2 := k2.cell 2 (.int .i64 i) rfl
 have e3 := k2.cell 3 (.int .i64 v) rfl
 have e4 := k2.cell 4 (.string d) rfl
 clear k2 c2
 rw [show kindV ⟨3, t, i, v, d⟩ = .iface 180 (.agg #[.int .i64 i]) from rfl]
 by_cases hzt : t = 0
 ·subst hzt
  rw [decide_eq_true rfl] at HE
  by_cases hzv : v = 0
  ·subst hzv
   rw [decide_eq_true rfl] at HE
   have hb1 := empty_beq d
   have hb2 := empty_eqs d
   cases hdd : decide (d = ByteArray.empty) <;> rw [hdd] at hb1 hb2 HE <;> clear hdd
   ·have HE : Hid (recV ⟨3, 0, i, 0, d⟩ = .nilIface) := by unfold Hid; rw [HE.out]; rfl
    go_wp2_with fail
    go_region_with (go_at_call 135; refine (c3 _).mono ?_; rintro e w3 ⟨rfl, hb3⟩; have a0 := (hb3.cell (p := ⟨w.heap.size, 0, none⟩) hlt).trans e0; have a1 := (hb3.cell (p := ⟨w.heap.size, 1, none⟩) hlt).trans e1; have a2 := (hb3.cell (p := ⟨w.heap.size, 2, none⟩) hlt).trans e2; have a3 := (hb3.cell (p := ⟨w.heap.size, 3, none⟩) hlt).trans e3; have a4 := (hb3.cell (p := ⟨w.heap.size, 4, none⟩) hlt).trans e4)
    all_goals go_wp2_with fail
    all_goals go_ret
    all_goals exact ⟨by rw [HE.out]; first | rfl | simp [kindV], B2.out.trans (((Below.refl _ w2).drew.trans hb3).mono B2.out.size)⟩
   ·have HE : Hid (recV ⟨3, 0, i, 0, d⟩ = kindV ⟨3, 0, i, 0, d⟩) := by unfold Hid; rw [HE.out]; rfl
    go_wp2_with fail
    go_region_with (go_at_call 135; refine (c3 _).mono ?_; rintro e w3 ⟨rfl, hb3⟩; have a0 := (hb3.cell (p := ⟨w.heap.size, 0, none⟩) hlt).trans e0; have a1 := (hb3.cell (p := ⟨w.heap.size, 1, none⟩) hlt).trans e1; have a2 := (hb3.cell (p := ⟨w.heap.size, 2, none⟩) hlt).trans e2; have a3 := (hb3.cell (p := ⟨w.heap.size, 3, none⟩) hlt).trans e3; have a4 := (hb3.cell (p := ⟨w.heap.size, 4, none⟩) hlt).trans e4)
    all_goals go_wp2_with fail
    all_goals go_ret
    all_goals exact ⟨by rw [HE.out]; first | rfl | simp [kindV], B2.out.trans (((Below.refl _ w2).drew.trans hb3).mono B2.out.size)⟩
  ·rw [decide_eq_false hzv] at HE
   have HE : Hid (recV ⟨3, 0, i, v, d⟩ = .nilIface) := by unfold Hid; rw [HE.out]; first | rfl | simp
   have zv : ((0 : Int) == v) = false := by simpa using Ne.symm hzv
   go_wp2_with fail
   go_region_with (go_at_call 135; refine (c3 _).mono ?_; rintro e w3 ⟨rfl, hb3⟩; have a0 := (hb3.cell (p := ⟨w.heap.size, 0, none⟩) hlt).trans e0; have a1 := (hb3.cell (p := ⟨w.heap.size, 1, none⟩) hlt).trans e1; have a2 := (hb3.cell (p := ⟨w.heap.size, 2, none⟩) hlt).trans e2; have a3 := (hb3.cell (p := ⟨w.heap.size, 3, none⟩) hlt).trans e3; have a4 := (hb3.cell (p := ⟨w.heap.size, 4, none⟩) hlt).trans e4)
   all_goals go_wp2_with fail
   all_goals go_ret
   all_goals exact ⟨by rw [HE.out]; first | rfl | simp [kindV], B2.out.trans (((Below.refl _ w2).drew.trans hb3).mono B2.out.size)⟩
 ·rw [decide_eq_false hzt] at HE
  have HE : Hid (recV ⟨3, t, i, v, d⟩ = .nilIface) := by unfold Hid; rw [HE.out]; first | rfl | simp
  have zt : ((0 : Int) == t) = false := by simpa using Ne.symm hzt
  go_wp2_with fail
  go_region_with (go_at_call 135; refine (c3 _).mono ?_; rintro e w3 ⟨rfl, hb3⟩; have a0 := (hb3.cell (p := ⟨w.heap.size, 0, none⟩) hlt).trans e0; have a1 := (hb3.cell (p := ⟨w.heap.size, 1, none⟩) hlt).trans e1; have a2 := (hb3.cell (p := ⟨w.heap.size, 2, none⟩) hlt).trans e2; have a3 := (hb3.cell (p := ⟨w.heap.size, 3, none⟩) hlt).trans e3; have a4 := (hb3.cell (p := ⟨w.heap.size, 4, none⟩) hlt).trans e4)
  all_goals go_wp2_with fail
  all_goals go_ret
  all_goals exact ⟨by rw [HE.out]; first | rfl | simp [kindV], B2.out.trans (((Below.refl _ w2).drew.trans hb3).mono B2.out.size)⟩
set_option maxHeartbeats 2000000 in
theorem recordOf_base (t i v : Int) (d : ByteArray) (w : World) (hd : d.size ≤ maxLen) (hn : bnd 4 t i v d.size = true) : Calls Tryz.prog 103 #[.agg #[.int .i64 4, .int .i64 t, .int .i64 i, .int .i64 v, .string d]] w fun e w' => e = .returned (recV ⟨4, t, i, v, d⟩) ∧ Below w.heap.size w w' := by
 have HE : Hid (recV ⟨4, t, i, v, d⟩ = if (decide (v = 0) && decide (d = ByteArray.empty)) = true then kindV ⟨4, t, i, v, d⟩ else .nilIface) := by unfold Hid recV; rw [recOk_iff, hn, Bool.true_and]; rfl
 have c1 := fun wx => inBoundsV 4 t i v d wx hd
 rw [hn] at c1
 have c2 := fun wx => kindOfV 4 t i v d wx
 have c3 := fun wx => baseRec i t wx
 have hb0 : Below w.heap.size w (w.alloc (.cells #[.int .i64 4, .int .i64 t, .int .i64 i, .int .i64 v, .string d] 116)) := (Below.refl _ _).alloc (Nat.le_refl _) _
 have k0 := Blk.new w #[.int .i64 4, .int .i64 t, .int .i64 i, .int .i64 v, .string d] 116
 clear hd hn
 go_enter Tryz.func103, Tryz.ntmps103
 go_wp2_with fail
 generalize w.alloc (.cells #[.int .i64 4, .int .i64 t, .int .i64 i, .int .i64 v, .string d] 116) = W at *
 refine (c1 _).mono ?_
 rintro e w1 ⟨rfl, hb1⟩
 have B1 : Hid (Below w.heap.size w w1) := hb0.trans (hb1.mono hb0.size)
 have k1 := k0.on hb1 k0.lt
 clear hb0 hb1 c1 k0
 have e0 := k1.cell 0 (.int .i64 4) rfl
 have e1 := k1.cell 1 (.int .i64 t) rfl
 have e2 := k1.cell 2 (.int .i64 i) rfl
 have e3 := k1.cell 3 (.int .i64 v) rfl
 have e4 := k1.cell 4 (.string d) rfl
 have K1 : Hid (Blk w1 w.heap.size _ _) := k1
 clear k1
 go_wp2_with fail
 refine (c2 _).mono ?_
 rintro e w2 ⟨rfl, hb2⟩
 have B2 : Hid (Below w.heap.size w w2) := B1.out.trans (hb2.mono B1.out.size)
 have k2 := K1.out.on hb2 K1.out.lt
 have hlt : w.heap.size < w2.heap.size := k2.lt
 clear hb2 e0 e1 e2 e3 e4 K1 B1
 have e0 := k2.cell 0 (.int .i64 4) rfl
 have e1 := k2.cell 1 (.int .i64 t) rfl
 have e2 := k2.cell 2 (.int .i64 i) rfl
 have e3 := k2.cell 3 (.int .i64 v) rfl
 have e4 := k2.cell 4 (.string d) rfl
 clear k2 c2
 rw [show kindV ⟨4, t, i, v, d⟩ = .iface 133 (.agg #[.int .i64 i, .int .i64 t]) from rfl]
 by_cases hzv : v = 0
 ·subst hzv
  rw [decide_eq_true rfl] at HE
  have hb1 := empty_beq d
  have hb2 := empty_eqs d
  cases hdd : decide (d = ByteArray.empty) <;> rw [hdd] at hb1 hb2 HE <;> clear hdd
  ·have HE : Hid (recV ⟨4, t, i, 0, d⟩ = .nilIface) := by unfold Hid; rw [HE.out]; rfl
   go_wp2_with fail
   go_region_with (go_at_call 131; refine (c3 _).mono ?_; rintro e w3 ⟨rfl, hb3⟩; have a0 := (hb3.cell (p := ⟨w.heap.size, 0, none⟩) hlt).trans e0; have a1 := (hb3.cell (p := ⟨w.heap.size, 1, none⟩) hlt).trans e1; have a2 := (hb3.cell (p := ⟨w.heap.size, 2, none⟩) hlt).trans e2; have a3 := (hb3.cell (p := ⟨w.heap.size, 3, none⟩) hlt).trans e3; have a4 := (hb3.cell (p := ⟨w.heap.size, 4, none⟩) hlt).trans e4)
   all_goals go_wp2_with fail
   all_goals go_ret
   all_goals exact ⟨by rw [HE.out]; first | rfl | simp [kindV], B2.out.trans (((Below.refl _ w2).drew.trans hb3).mono B2.out.size)⟩
  ·have HE : Hid (recV ⟨4, t, i, 0, d⟩ = kindV ⟨4, t, i, 0, d⟩) := by unfold Hid; rw [HE.out]; rfl
   go_wp2_with fail
   go_region_with (go_at_call 131; refine (c3 _).mono ?_; rintro e w3 ⟨rfl, hb3⟩; have a0 := (hb3.cell (p := ⟨w.heap.size, 0, none⟩) hlt).trans e0; have a1 := (hb3.cell (p := ⟨w.heap.size, 1, none⟩) hlt).trans e1; have a2 := (hb3.cell (p := ⟨w.heap.size, 2, none⟩) hlt).trans e2; have a3 := (hb3.cell (p := ⟨w.heap.size, 3, none⟩) hlt).trans e3; have a4 := (hb3.cell (p := ⟨w.heap.size, 4, none⟩) hlt).trans e4)
   all_goals go_wp2_with fail
   all_goals go_ret
   all_goals exact ⟨by rw [HE.out]; first | rfl | simp [kindV], B2.out.trans (((Below.refl _ w2).drew.trans hb3).mono B2.out.size)⟩
 ·rw [decide_eq_false hzv] at HE
  have HE : Hid (recV ⟨4, t, i, v, d⟩ = .nilIface) := by unfold Hid; rw [HE.out]; first | rfl | simp
  have zv : ((0 : Int) == v) = false := by simpa using Ne.symm hzv
  go_wp2_with fail
  go_region_with (go_at_call 131; refine (c3 _).mono ?_; rintro e w3 ⟨rfl, hb3⟩; have a0 := (hb3.cell (p := ⟨w.heap.size, 0, none⟩) hlt).trans e0; have a1 := (hb3.cell (p := ⟨w.heap.size, 1, none⟩) hlt).trans e1; have a2 := (hb3.cell (p := ⟨w.heap.size, 2, none⟩) hlt).trans e2; have a3 := (hb3.cell (p := ⟨w.heap.size, 3, none⟩) hlt).trans e3; have a4 := (hb3.cell (p := ⟨w.heap.size, 4, none⟩) hlt).trans e4)
  all_goals go_wp2_with fail
  all_goals go_ret
  all_goals exact ⟨by rw [HE.out]; first | rfl | simp [kindV], B2.out.trans (((Below.refl _ w2).drew.trans hb3).mono B2.out.size)⟩
theorem recordOfV (r : Rcd) (w : World) (hd : r.data.size ≤ maxLen) : Calls Tryz.prog 103 #[vRcd r] w fun e w' => e = .returned (recV r) ∧ Below w.heap.size w w' := by
 obtain ⟨k, t, i, v, d⟩ := r
 cases hn : bnd k t i v d.size
 ·have : recV ⟨k, t, i, v, d⟩ = .nilIface := by unfold recV; rw [recOk_iff, hn]; rfl
  rw [this]
  exact recordOf_no k t i v d w hd hn
 ·have hh := of_decide_eq_true hn
  rcases (show k = 1 ∨ k = 2 ∨ k = 3 ∨ k = 4 by omega) with rfl | rfl | rfl | rfl
  ·exact recordOf_hard t i v d w hd hn
  ·exact recordOf_entry t i v d w hd hn
  ·exact recordOf_cut t i v d w hd hn
  ·exact recordOf_base t i v d w hd hn
set_option maxHeartbeats 1000000 in
theorem implRecOk (r : Rcd) (w : World) (hd : r.data.size ≤ maxLen) : Calls Tryz.prog 75 #[vRcd r] w fun e w' => e = .returned (.bool (recOk r)) ∧ Below w.heap.size w w' := by
 have c1 := fun wx => recordOfV r wx hd
 have HE : Hid (recV r = if recOk r = true then kindV r else .nilIface) := rfl
 have HK : Hid (∃ a b, kindV r = .iface a b) := by
  unfold Hid kindV
  split
  ·exact ⟨_, _, rfl⟩
  split
  ·exact ⟨_, _, rfl⟩
  split
  ·exact ⟨_, _, rfl⟩
  ·exact ⟨_, _, rfl⟩
 unfold vRcd at *
 have hb0 : Below w.heap.size w (w.alloc (.cells #[.int .i64 r.kind, .int .i64 r.term, .int .i64 r.index, .int .i64 r.vote, .string r.data] 116)) := (Below.refl _ _).alloc (Nat.le_refl _) _
 go_enter Tryz.func75, Tryz.ntmps75
 go_wp2_with fail
 generalize w.alloc (.cells #[.int .i64 r.kind, .int .i64 r.term, .int .i64 r.index, .int .i64 r.vote, .string r.data] 116) = W at *
 refine (c1 _).mono ?_
 rintro e w1 ⟨rfl, hb1⟩
 have B1 : Hid (Below w.heap.size w w1) := hb0.trans (hb1.mono hb0.size)
 clear hb0 hb1 c1
 cases ho : recOk r
 ·rw [show recV r = .nilIface by rw [HE.out, ho]; rfl]
  go_wp2_with fail
  go_ret
  exact ⟨by rw [ho]; rfl, B1.out⟩
 ·obtain ⟨a, b, hk⟩ := HK.out
  rw [show recV r = .iface a b by rw [HE.out, ho, hk]; rfl]
  clear hk
  go_wp2_with fail
  go_ret
  exact ⟨by rw [ho]; rfl, B1.out⟩
end Go.Proofs.YtepffbgelaajnaaGreatDoor
