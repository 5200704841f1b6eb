/- WkSz RcSpec RcImpl RcOf NumD -/
import Derived.Test.YtdimaoloapbeoaaGreatDoorRows
import Derived.Test.YtdimaoloapbeoaaGreatDoorQv2
import Derived.Test.YtdimaoloapbeoaaGreatDoorQv10
import Derived.WalkKit
import Derived.ProofKit
import Derived.OpenShut
import Derived.Below
import Derived.WalkSmall
import Derived.WalkLawsBesides
import Derived.Outline
import Derived.BigQuiet
import Derived.Deep.QuietTactic
import Derived.Handy
import Derived.Test.YtdimaoloapbeoaaGreatDoorQv3
import Derived.Deep.RegionWith
import Derived.Test.YtdimaoloapbeoaaGreatDoorQv0
import Derived.WalkSpells
import Derived.WalkMore
import Derived.Deep.OwnRows
import Derived.Deep.RegionHeld3
import Derived.Deep.RegionLaw
import Derived.Deep.DrawnRows
namespace Go.Proofs.YtdimaoloapbeoaaGreatDoor
open Go.ChangeShapes Go.WideShapes Go.ChangeAt Go.RowKit Go.PlainAid
set_option linter.unusedVariables false
def vEnt (x : Ent) : Value := .agg #[.int .i64 x.term, .string x.data]
def vRcd (x : Rcd) : Value := .agg #[.int .i64 x.kind, .int .i64 x.term, .int .i64 x.index, .int .i64 x.vote, .string x.data]
end Go.Proofs.YtdimaoloapbeoaaGreatDoor
namespace Go.Proofs.YtdimaoloapbeoaaGreatDoor
open Go.ChangeShapes Go.WideShapes Go.ChangeAt Go.RowKit Go.PlainAid
set_option linter.unusedVariables false
theorem empty_beq (d : ByteArray) : d.toList.isEmpty = decide (d = ByteArray.empty) := by
 have h := toList_beq d ByteArray.empty
 rw [← h]
 have : ByteArray.empty.toList = [] := by rw [Lib.toList_data]; rfl
 rw [this]
 cases d.toList <;> rfl
set_option maxHeartbeats 400000 in
theorem inBW (x lo hi : Int) (w : World) : Calls Tryz.prog 43 #[.int .i64 x, .int .i64 lo, .int .i64 hi] w fun e w' => e = .returned (.bool (inIt x lo hi)) ∧ w = w' := by
 by_cases h1 : lo ≤ x
 ·go_enter Tryz.func43, Tryz.ntmps43
  go_wp2
  go_ret
  exact ⟨by simp [inIt, h1], rfl⟩
 ·have z : decide (lo ≤ x) = false := decide_eq_false h1
  have z2 : x < lo := by omega
  go_enter Tryz.func43, Tryz.ntmps43
  go_wp2
  go_ret
  exact ⟨by unfold inIt; rw [z]; rfl, rfl⟩
set_option maxHeartbeats 400000 in
theorem basedV (i t : Int) (w : World) : Calls Tryz.prog 109 #[.int .i64 i, .int .i64 t] w fun e w' => e = .returned (.bool (based i t)) ∧ w = w' := by
 by_cases h1 : i = 0
 ·subst h1
  go_enter Tryz.func109, Tryz.ntmps109
  go_wp2
  go_ret
  exact ⟨by unfold based; rw [if_pos rfl]; exact congrArg (fun b => Ending.returned (.bool b)) (by by_cases h : t = 0 <;> simp [h]), rfl⟩
 ·have z : (i == 0) = false := by simpa using h1
  have a1 := inBW i 1 100000
  have a2 := inBW t 1 100000
  have HE : Hid (based i t = (inIt i 1 100000 && inIt t 1 100000)) := by unfold Hid based; rw [if_neg h1]
  cases h2 : inIt i 1 100000 <;> rw [h2] at a1 HE <;> clear h1 h2
  ·go_enter Tryz.func109, Tryz.ntmps109
   go_wp2_with fail
   refine (a1 _).mono ?_
   rintro e w' ⟨rfl, rfl⟩
   go_wp2_with fail
   go_ret
   exact ⟨by rw [HE.out]; rfl, rfl⟩
  ·go_enter Tryz.func109, Tryz.ntmps109
   go_wp2_with fail
   refine (a1 _).mono ?_
   rintro e w' ⟨rfl, rfl⟩
   go_wp2_with fail
   refine (a2 _).mono ?_
   rintro e w' ⟨rfl, rfl⟩
   go_wp2_with fail
   go_ret
   exact ⟨by rw [HE.out]; rfl, rfl⟩
set_option maxHeartbeats 2000000 in
theorem specRecOk (r : Rcd) (w : World) (hd : r.data.size ≤ maxLen) : Calls Tryz.prog 85 #[vRcd r] w fun e w' => e = .returned (.bool (recOk r)) ∧ Below w.heap.size w w' := by
 obtain ⟨k, t, i, v, d⟩ := r
 unfold vRcd
 simp only at hd ⊢
 have HB : Hid (Below w.heap.size w (w.alloc (.cells #[.int .i64 k, .int .i64 t, .int .i64 i, .int .i64 v, .string d] 102))) := (Below.refl _ _).alloc (Nat.le_refl _) _
 have HE : Hid (recOk ⟨k, t, i, v, d⟩ = if k = 1 then inIt t 0 100000 && inIt v (-1) 4 && decide (i = 0) && decide (d = ByteArray.empty)
  else if k = 2 then inIt t 1 100000 && inIt i 1 100000 && decide (v = 0) && decide (d.size ≤ 900)
  else if k = 3 then decide (t = 0) && inIt i 1 100000 && decide (v = 0) && decide (d = ByteArray.empty)
  else if k = 4 then based i t && decide (v = 0) && decide (d = ByteArray.empty)
  else false) := rfl
 by_cases k1 : k = 1
 ·subst k1
  rw [if_pos rfl] at HE
  have a4 := inBW t 0 100000
  cases h4 : inIt t 0 100000 <;> rw [h4] at a4 HE
  ·clear h4
   go_enter Tryz.func85, Tryz.ntmps85
   go_wp2_with fail
   refine (a4 _).mono ?_
   rintro e w' ⟨rfl, rfl⟩
   go_wp2_with fail
   go_ret
   exact ⟨by rw [HE.out]; rfl, HB.out⟩
  ·clear h4
   have a3 := inBW v (-1) 4
   cases h3 : inIt v (-1) 4 <;> rw [h3] at a3 HE
   ·clear h3
    go_enter Tryz.func85, Tryz.ntmps85
    go_wp2_with fail
    refine (a4 _).mono ?_
    rintro e w' ⟨rfl, rfl⟩
    go_wp2_with fail
    refine (a3 _).mono ?_
    rintro e w' ⟨rfl, rfl⟩
    go_wp2_with fail
    go_ret
    exact ⟨by rw [HE.out]; rfl, HB.out⟩
   ·clear h3
    by_cases h2 : i = 0
    ·subst h2
     rw [decide_eq_true rfl] at HE
     have hb := empty_beq d
     cases h1 : decide (d = ByteArray.empty) <;> rw [h1] at hb HE <;> clear h1
     ·go_enter Tryz.func85, Tryz.ntmps85
      go_wp2_with fail
      refine (a4 _).mono ?_
      rintro e w' ⟨rfl, rfl⟩
      go_wp2_with fail
      refine (a3 _).mono ?_
      rintro e w' ⟨rfl, rfl⟩
      go_wp2_with fail
      go_ret
      exact ⟨by rw [HE.out]; rfl, HB.out⟩
     ·go_enter Tryz.func85, Tryz.ntmps85
      go_wp2_with fail
      refine (a4 _).mono ?_
      rintro e w' ⟨rfl, rfl⟩
      go_wp2_with fail
      refine (a3 _).mono ?_
      rintro e w' ⟨rfl, rfl⟩
      go_wp2_with fail
      go_ret
      exact ⟨by rw [HE.out]; rfl, HB.out⟩
    ·have z2 : (i == 0) = false := by simpa using h2
     rw [decide_eq_false h2] at HE
     clear h2
     go_enter Tryz.func85, Tryz.ntmps85
     go_wp2_with fail
     refine (a4 _).mono ?_
     rintro e w' ⟨rfl, rfl⟩
     go_wp2_with fail
     refine (a3 _).mono ?_
     rintro e w' ⟨rfl, rfl⟩
     go_wp2_with fail
     go_ret
     exact ⟨by rw [HE.out]; rfl, HB.out⟩
 rw [if_neg k1] at HE
 have y1 : (k == 1) = false := by simpa using k1
 clear k1
 by_cases k2 : k = 2
 ·subst k2
  rw [if_pos rfl] at HE
  have a4 := inBW t 1 100000
  cases h4 : inIt t 1 100000 <;> rw [h4] at a4 HE
  ·clear h4
   go_enter Tryz.func85, Tryz.ntmps85
   go_wp2_with fail
   refine (a4 _).mono ?_
   rintro e w' ⟨rfl, rfl⟩
   go_wp2_with fail
   go_ret
   exact ⟨by rw [HE.out]; rfl, HB.out⟩
  ·clear h4
   have a3 := inBW i 1 100000
   cases h3 : inIt i 1 100000 <;> rw [h3] at a3 HE
   ·clear h3
    go_enter Tryz.func85, Tryz.ntmps85
    go_wp2_with fail
    refine (a4 _).mono ?_
    rintro e w' ⟨rfl, rfl⟩
    go_wp2_with fail
    refine (a3 _).mono ?_
    rintro e w' ⟨rfl, rfl⟩
    go_wp2_with fail
    go_ret
    exact ⟨by rw [HE.out]; rfl, HB.out⟩
   ·clear h3
    by_cases h2 : v = 0
    ·subst h2
     rw [decide_eq_true rfl] at HE
     have hz : decide ((d.size : Int) ≤ 900) = decide (d.size ≤ 900) := by rw [decide_eq_decide]; omega
     have hdi : (d.size : Int) ≤ 9223372036854775807 := by unfold maxLen at hd; omega
     cases h1 : decide (d.size ≤ 900) <;> rw [h1] at hz HE <;> clear h1
     ·go_enter Tryz.func85, Tryz.ntmps85
      go_wp2_with fail
      refine (a4 _).mono ?_
      rintro e w' ⟨rfl, rfl⟩
      go_wp2_with fail
      refine (a3 _).mono ?_
      rintro e w' ⟨rfl, rfl⟩
      go_wp2_with fail
      go_ret
      exact ⟨by rw [HE.out]; rfl, HB.out⟩
     ·go_enter Tryz.func85, Tryz.ntmps85
      go_wp2_with fail
      refine (a4 _).mono ?_
      rintro e w' ⟨rfl, rfl⟩
      go_wp2_with fail
      refine (a3 _).mono ?_
      rintro e w' ⟨rfl, rfl⟩
      go_wp2_with fail
      go_ret
      exact ⟨by rw [HE.out]; rfl, HB.out⟩
    ·have z2 : (v == 0) = false := by simpa using h2
     rw [decide_eq_false h2] at HE
     clear h2
     go_enter Tryz.func85, Tryz.ntmps85
     go_wp2_with fail
     refine (a4 _).mono ?_
     rintro e w' ⟨rfl, rfl⟩
     go_wp2_with fail
     refine (a3 _).mono ?_
     rintro e w' ⟨rfl, rfl⟩
     go_wp2_with fail
     go_ret
     exact ⟨by rw [HE.out]; rfl, HB.out⟩
 rw [if_neg k2] at HE
 have y2 : (k == 2) = false := by simpa using k2
 clear k2
 by_cases k3 : k = 3
 ·subst k3
  rw [if_pos rfl] at HE
  by_cases h4 : t = 0
  ·subst h4
   rw [decide_eq_true rfl] at HE
   have a3 := inBW i 1 100000
   cases h3 : inIt i 1 100000 <;> rw [h3] at a3 HE
   ·clear h3
    go_enter Tryz.func85, Tryz.ntmps85
    go_wp2_with fail
    refine (a3 _).mono ?_
    rintro e w' ⟨rfl, rfl⟩
    go_wp2_with fail
    go_ret
    exact ⟨by rw [HE.out]; rfl, HB.out⟩
   ·clear h3
    by_cases h2 : v = 0
    ·subst h2
     rw [decide_eq_true rfl] at HE
     have hb := empty_beq d
     cases h1 : decide (d = ByteArray.empty) <;> rw [h1] at hb HE <;> clear h1
     ·go_enter Tryz.func85, Tryz.ntmps85
      go_wp2_with fail
      refine (a3 _).mono ?_
      rintro e w' ⟨rfl, rfl⟩
      go_wp2_with fail
      go_ret
      exact ⟨by rw [HE.out]; rfl, HB.out⟩
     ·go_enter Tryz.func85, Tryz.ntmps85
      go_wp2_with fail
      refine (a3 _).mono ?_
      rintro e w' ⟨rfl, rfl⟩
      go_wp2_with fail
      go_ret
      exact ⟨by rw [HE.out]; rfl, HB.out⟩
    ·have z2 : (v == 0) = false := by simpa using h2
     rw [decide_eq_false h2] at HE
     clear h2
     go_enter Tryz.func85, Tryz.ntmps85
     go_wp2_with fail
     refine (a3 _).mono ?_
     rintro e w' ⟨rfl, rfl⟩
     go_wp2_with fail
     go_ret
     exact ⟨by rw [HE.out]; rfl, HB.out⟩
  ·have z4 : (t == 0) = false := by simpa using h4
   rw [decide_eq_false h4] at HE
   clear h4
   go_enter Tryz.func85, Tryz.ntmps85
   go_wp2_with fail
   go_ret
   exact ⟨by rw [HE.out]; rfl, HB.out⟩
 rw [if_neg k3] at HE
 have y3 : (k == 3) = false := by simpa using k3
 clear k3
 by_cases k4 : k = 4
 ·subst k4
  rw [if_pos rfl] at HE
  have a3 := basedV i t
  cases h3 : based i t <;> rw [h3] at a3 HE
  ·clear h3
   go_enter Tryz.func85, Tryz.ntmps85
   go_wp2_with fail
   refine (a3 _).mono ?_
   rintro e w' ⟨rfl, rfl⟩
   go_wp2_with fail
   go_ret
   exact ⟨by rw [HE.out]; rfl, HB.out⟩
  ·clear h3
   by_cases h2 : v = 0
   ·subst h2
    rw [decide_eq_true rfl] at HE
    have hb := empty_beq d
    cases h1 : decide (d = ByteArray.empty) <;> rw [h1] at hb HE <;> clear h1
    ·go_enter Tryz.func85, Tryz.ntmps85
     go_wp2_with fail
     refine (a3 _).mono ?_
     rintro e w' ⟨rfl, rfl⟩
     go_wp2_with fail
     go_ret
     exact ⟨by rw [HE.out]; rfl, HB.out⟩
    ·go_enter Tryz.func85, Tryz.ntmps85
     go_wp2_with fail
     refine (a3 _).mono ?_
     rintro e w' ⟨rfl, rfl⟩
     go_wp2_with fail
     go_ret
     exact ⟨by rw [HE.out]; rfl, HB.out⟩
   ·have z2 : (v == 0) = false := by simpa using h2
    rw [decide_eq_false h2] at HE
    clear h2
    go_enter Tryz.func85, Tryz.ntmps85
    go_wp2_with fail
    refine (a3 _).mono ?_
    rintro e w' ⟨rfl, rfl⟩
    go_wp2_with fail
    go_ret
    exact ⟨by rw [HE.out]; rfl, HB.out⟩
 rw [if_neg k4] at HE
 have y4 : (k == 4) = false := by simpa using k4
 clear k4
 go_enter Tryz.func85, Tryz.ntmps85
 go_wp2_with fail
 go_ret
 exact ⟨by rw [HE.out]; rfl, HB.out⟩
end Go.Proofs.YtdimaoloapbeoaaGreatDoor
namespace Go.Proofs.YtdimaoloapbeoaaGreatDoor
open Go.ChangeShapes Go.WideShapes Go.ChangeAt Go.RowKit Go.PlainAid
set_option linter.unusedVariables false
def bnd (k t i v n : Int) : Bool := decide ((k = 1 ∧ 0 ≤ t ∧ t ≤ 100000 ∧ -1 ≤ v ∧ v ≤ 4) ∨ (k = 4 ∧ i = 0 ∧ t = 0) ∨ ((k = 4 ∧ i ≠ 0 ∨ k = 2) ∧ 1 ≤ t ∧ t ≤ 100000 ∧ n ≤ 900 ∧ 1 ≤ i ∧ i ≤ 100000) ∨ (k = 3 ∧ 1 ≤ i ∧ i ≤ 100000))
def kindV (r : Rcd) : Value :=
 if r.kind = 1 then .iface 165 (.agg #[.int .i64 r.term, .int .i64 r.vote])
 else if r.kind = 2 then .iface 167 (.agg #[.int .i64 r.index, .int .i64 r.term, .string r.data])
 else if r.kind = 3 then .iface 169 (.agg #[.int .i64 r.index])
 else .iface 161 (.agg #[.int .i64 r.index, .int .i64 r.term])
set_option maxHeartbeats 4000000 in
theorem inBoundsV (k t i v : Int) (d : ByteArray) (w : World) (hd : d.size ≤ maxLen) : Calls Tryz.prog 112 #[.agg #[.int .i64 k, .int .i64 t, .int .i64 i, .int .i64 v, .string d]] w fun e w' => e = .returned (.bool (bnd k t i v d.size)) ∧ Below w.heap.size w w' := by
 have HB : Hid (Below w.heap.size w (w.alloc (.cells #[.int .i64 k, .int .i64 t, .int .i64 i, .int .i64 v, .string d] 102))) := (Below.refl _ _).alloc (Nat.le_refl _) _
 have hdi : (d.size : Int) ≤ 9223372036854775807 := by unfold maxLen at hd; omega
 clear hd
 by_cases k1 : k = 1
 ·subst k1
  by_cases h4 : 0 ≤ t
  ·by_cases h3 : t ≤ 100000
   ·by_cases h2 : -1 ≤ v
    ·by_cases h1 : v < 5
     ·go_enter Tryz.func112, Tryz.ntmps112
      go_wp2
      go_ret
      exact ⟨by first | (rw [show bnd _ _ _ _ _ = true from decide_eq_true (by omega)]; rfl) | (rw [show bnd _ _ _ _ _ = false from decide_eq_false (by omega)]; rfl), HB.out⟩
     ·go_enter Tryz.func112, Tryz.ntmps112
      go_wp2
      go_ret
      exact ⟨by first | (rw [show bnd _ _ _ _ _ = true from decide_eq_true (by omega)]; rfl) | (rw [show bnd _ _ _ _ _ = false from decide_eq_false (by omega)]; rfl), HB.out⟩
    ·go_enter Tryz.func112, Tryz.ntmps112
     go_wp2
     go_ret
     exact ⟨by first | (rw [show bnd _ _ _ _ _ = true from decide_eq_true (by omega)]; rfl) | (rw [show bnd _ _ _ _ _ = false from decide_eq_false (by omega)]; rfl), HB.out⟩
   ·go_enter Tryz.func112, Tryz.ntmps112
    go_wp2
    go_ret
    exact ⟨by first | (rw [show bnd _ _ _ _ _ = true from decide_eq_true (by omega)]; rfl) | (rw [show bnd _ _ _ _ _ = false from decide_eq_false (by omega)]; rfl), HB.out⟩
  ·go_enter Tryz.func112, Tryz.ntmps112
   go_wp2
   go_ret
   exact ⟨by first | (rw [show bnd _ _ _ _ _ = true from decide_eq_true (by omega)]; rfl) | (rw [show bnd _ _ _ _ _ = false from decide_eq_false (by omega)]; rfl), HB.out⟩
 by_cases k4 : k = 4
 ·subst k4
  by_cases i0 : i = 0
  ·subst i0
   by_cases t0 : t = 0
   ·subst t0
    go_enter Tryz.func112, Tryz.ntmps112
    go_wp2
    go_ret
    exact ⟨by first | (rw [show bnd _ _ _ _ _ = true from decide_eq_true (by omega)]; rfl) | (rw [show bnd _ _ _ _ _ = false from decide_eq_false (by omega)]; rfl), HB.out⟩
   ·have zt : (t == 0) = false := by simpa using t0
    go_enter Tryz.func112, Tryz.ntmps112
    go_wp2
    go_ret
    exact ⟨by first | (rw [show bnd _ _ _ _ _ = true from decide_eq_true (by omega)]; rfl) | (rw [show bnd _ _ _ _ _ = false from decide_eq_false (by omega)]; rfl), HB.out⟩
  ·have zi : (i == 0) = false := by simpa using i0
   by_cases g3 : t < 1
   ·go_enter Tryz.func112, Tryz.ntmps112
    go_wp2
    go_ret
    exact ⟨by first | (rw [show bnd _ _ _ _ _ = true from decide_eq_true (by omega)]; rfl) | (rw [show bnd _ _ _ _ _ = false from decide_eq_false (by omega)]; rfl), HB.out⟩
   ·by_cases g2 : 100000 < t
    ·go_enter Tryz.func112, Tryz.ntmps112
     go_wp2
     go_ret
     exact ⟨by first | (rw [show bnd _ _ _ _ _ = true from decide_eq_true (by omega)]; rfl) | (rw [show bnd _ _ _ _ _ = false from decide_eq_false (by omega)]; rfl), HB.out⟩
    ·by_cases g1 : 900 < (d.size : Int)
     ·go_enter Tryz.func112, Tryz.ntmps112
      go_wp2
      go_ret
      exact ⟨by first | (rw [show bnd _ _ _ _ _ = true from decide_eq_true (by omega)]; rfl) | (rw [show bnd _ _ _ _ _ = false from decide_eq_false (by omega)]; rfl), HB.out⟩
     ·by_cases h2 : 1 ≤ i
      ·by_cases h1 : i ≤ 100000
       ·go_enter Tryz.func112, Tryz.ntmps112
        go_wp2
        go_ret
        exact ⟨by first | (rw [show bnd _ _ _ _ _ = true from decide_eq_true (by omega)]; rfl) | (rw [show bnd _ _ _ _ _ = false from decide_eq_false (by omega)]; rfl), HB.out⟩
       ·go_enter Tryz.func112, Tryz.ntmps112
        go_wp2
        go_ret
        exact ⟨by first | (rw [show bnd _ _ _ _ _ = true from decide_eq_true (by omega)]; rfl) | (rw [show bnd _ _ _ _ _ = false from decide_eq_false (by omega)]; rfl), HB.out⟩
      ·go_enter Tryz.func112, Tryz.ntmps112
       go_wp2
       go_ret
       exact ⟨by first | (rw [show bnd _ _ _ _ _ = true from decide_eq_true (by omega)]; rfl) | (rw [show bnd _ _ _ _ _ = false from decide_eq_false (by omega)]; rfl), HB.out⟩
 by_cases k2 : k = 2
 ·subst k2
  by_cases g3 : t < 1
  ·go_enter Tryz.func112, Tryz.ntmps112
   go_wp2
   go_ret
   exact ⟨by first | (rw [show bnd _ _ _ _ _ = true from decide_eq_true (by omega)]; rfl) | (rw [show bnd _ _ _ _ _ = false from decide_eq_false (by omega)]; rfl), HB.out⟩
  ·by_cases g2 : 100000 < t
   ·go_enter Tryz.func112, Tryz.ntmps112
    go_wp2
    go_ret
    exact ⟨by first | (rw [show bnd _ _ _ _ _ = true from decide_eq_true (by omega)]; rfl) | (rw [show bnd _ _ _ _ _ = false from decide_eq_false (by omega)]; rfl), HB.out⟩
   ·by_cases g1 : 900 < (d.size : Int)
    ·go_enter Tryz.func112, Tryz.ntmps112
     go_wp2
     go_ret
     exact ⟨by first | (rw [show bnd _ _ _ _ _ = true from decide_eq_true (by omega)]; rfl) | (rw [show bnd _ _ _ _ _ = false from decide_eq_false (by omega)]; rfl), HB.out⟩
    ·by_cases h2 : 1 ≤ i
     ·by_cases h1 : i ≤ 100000
      ·go_enter Tryz.func112, Tryz.ntmps112
       go_wp2
       go_ret
       exact ⟨by first | (rw [show bnd _ _ _ _ _ = true from decide_eq_true (by omega)]; rfl) | (rw [show bnd _ _ _ _ _ = false from decide_eq_false (by omega)]; rfl), HB.out⟩
      ·go_enter Tryz.func112, Tryz.ntmps112
       go_wp2
       go_ret
       exact ⟨by first | (rw [show bnd _ _ _ _ _ = true from decide_eq_true (by omega)]; rfl) | (rw [show bnd _ _ _ _ _ = false from decide_eq_false (by omega)]; rfl), HB.out⟩
     ·go_enter Tryz.func112, Tryz.ntmps112
      go_wp2
      go_ret
      exact ⟨by first | (rw [show bnd _ _ _ _ _ = true from decide_eq_true (by omega)]; rfl) | (rw [show bnd _ _ _ _ _ = false from decide_eq_false (by omega)]; rfl), HB.out⟩
 by_cases k3 : k = 3
 ·subst k3
  by_cases h2 : 1 ≤ i
  ·by_cases h1 : i ≤ 100000
   ·go_enter Tryz.func112, Tryz.ntmps112
    go_wp2
    go_ret
    exact ⟨by first | (rw [show bnd _ _ _ _ _ = true from decide_eq_true (by omega)]; rfl) | (rw [show bnd _ _ _ _ _ = false from decide_eq_false (by omega)]; rfl), HB.out⟩
   ·go_enter Tryz.func112, Tryz.ntmps112
    go_wp2
    go_ret
    exact ⟨by first | (rw [show bnd _ _ _ _ _ = true from decide_eq_true (by omega)]; rfl) | (rw [show bnd _ _ _ _ _ = false from decide_eq_false (by omega)]; rfl), HB.out⟩
  ·go_enter Tryz.func112, Tryz.ntmps112
   go_wp2
   go_ret
   exact ⟨by first | (rw [show bnd _ _ _ _ _ = true from decide_eq_true (by omega)]; rfl) | (rw [show bnd _ _ _ _ _ = false from decide_eq_false (by omega)]; rfl), HB.out⟩
 have y1 : (k == 1) = false := by simpa using k1
 have y2 : (k == 2) = false := by simpa using k2
 have y3 : (k == 3) = false := by simpa using k3
 have y4 : (k == 4) = false := by simpa using k4
 go_enter Tryz.func112, Tryz.ntmps112
 go_wp2
 go_ret
 exact ⟨by first | (rw [show bnd _ _ _ _ _ = true from decide_eq_true (by omega)]; rfl) | (rw [show bnd _ _ _ _ _ = false from decide_eq_false (by omega)]; rfl), HB.out⟩
set_option maxHeartbeats 1000000 in
theorem kindOfV (k t i v : Int) (d : ByteArray) (w : World) : Calls Tryz.prog 113 #[.agg #[.int .i64 k, .int .i64 t, .int .i64 i, .int .i64 v, .string d]] w fun e w' => e = .returned (kindV ⟨k, t, i, v, d⟩) ∧ Below w.heap.size w w' := by
 have HB : Hid (Below w.heap.size w (w.alloc (.cells #[.int .i64 k, .int .i64 t, .int .i64 i, .int .i64 v, .string d] 102))) := (Below.refl _ _).alloc (Nat.le_refl _) _
 by_cases k1 : k = 1
 ·subst k1
  go_enter Tryz.func113, Tryz.ntmps113
  go_wp2
  go_ret
  exact ⟨rfl, HB.out⟩
 by_cases k2 : k = 2
 ·subst k2
  go_enter Tryz.func113, Tryz.ntmps113
  go_wp2
  go_ret
  exact ⟨rfl, HB.out⟩
 by_cases k3 : k = 3
 ·subst k3
  go_enter Tryz.func113, Tryz.ntmps113
  go_wp2
  go_ret
  exact ⟨rfl, HB.out⟩
 have y1 : (k == 1) = false := by simpa using k1
 have y2 : (k == 2) = false := by simpa using k2
 have y3 : (k == 3) = false := by simpa using k3
 have HE : Hid (kindV ⟨k, t, i, v, d⟩ = .iface 161 (.agg #[.int .i64 i, .int .i64 t])) := by unfold Hid kindV; rw [if_neg k1, if_neg k2, if_neg k3]
 clear k1 k2 k3
 go_enter Tryz.func113, Tryz.ntmps113
 go_wp2
 go_ret
 exact ⟨by rw [HE.out]; rfl, HB.out⟩
set_option maxHeartbeats 400000 in
theorem hardRec (t v : Int) (w : World) : Calls Tryz.prog 144 #[.agg #[.int .i64 t, .int .i64 v]] w fun e w' => e = .returned (.agg #[.int .i64 1, .int .i64 t, .int .i64 0, .int .i64 v, .string ⟨#[]⟩]) ∧ Below w.heap.size w w' := by
 go_enter Tryz.func144, Tryz.ntmps144
 go_wp2
 exact bodyPost_ret (v := .agg #[.int .i64 1, .int .i64 t, .int .i64 0, .int .i64 v, .string ⟨#[]⟩]) (by simp [results, go_sem]) rfl ⟨rfl, below_alloc2' _ _ _⟩
set_option maxHeartbeats 400000 in
theorem entryRec (i t : Int) (d : ByteArray) (w : World) : Calls Tryz.prog 145 #[.agg #[.int .i64 i, .int .i64 t, .string d]] w fun e w' => e = .returned (.agg #[.int .i64 2, .int .i64 t, .int .i64 i, .int .i64 0, .string d]) ∧ Below w.heap.size w w' := by
 go_enter Tryz.func145, Tryz.ntmps145
 go_wp2
 exact bodyPost_ret (v := .agg #[.int .i64 2, .int .i64 t, .int .i64 i, .int .i64 0, .string d]) (by simp [results, go_sem]) rfl ⟨rfl, below_alloc2' _ _ _⟩
set_option maxHeartbeats 400000 in
theorem cutRec (i : Int) (w : World) : Calls Tryz.prog 146 #[.agg #[.int .i64 i]] w fun e w' => e = .returned (.agg #[.int .i64 3, .int .i64 0, .int .i64 i, .int .i64 0, .string ⟨#[]⟩]) ∧ Below w.heap.size w w' := by
 go_enter Tryz.func146, Tryz.ntmps146
 go_wp2
 exact bodyPost_ret (v := .agg #[.int .i64 3, .int .i64 0, .int .i64 i, .int .i64 0, .string ⟨#[]⟩]) (by simp [results, go_sem]) rfl ⟨rfl, below_alloc2' _ _ _⟩
set_option maxHeartbeats 400000 in
theorem baseRec (i t : Int) (w : World) : Calls Tryz.prog 143 #[.agg #[.int .i64 i, .int .i64 t]] w fun e w' => e = .returned (.agg #[.int .i64 4, .int .i64 t, .int .i64 i, .int .i64 0, .string ⟨#[]⟩]) ∧ Below w.heap.size w w' := by
 go_enter Tryz.func143, Tryz.ntmps143
 go_wp2
 exact bodyPost_ret (v := .agg #[.int .i64 4, .int .i64 t, .int .i64 i, .int .i64 0, .string ⟨#[]⟩]) (by simp [results, go_sem]) rfl ⟨rfl, below_alloc2' _ _ _⟩
end Go.Proofs.YtdimaoloapbeoaaGreatDoor
namespace Go.Proofs.YtdimaoloapbeoaaGreatDoor
open Go.ChangeShapes Go.WideShapes Go.ChangeAt Go.RowKit Go.PlainAid
set_option linter.unusedVariables false
def recV (r : Rcd) : Value := if recOk r = true then kindV r else .nilIface
def rest0 (k t i v : Int) (d : ByteArray) : Bool :=
 if k = 1 then decide (i = 0) && decide (d = ByteArray.empty) else if k = 2 then decide (v = 0)
 else if k = 3 then decide (t = 0) && decide (v = 0) && decide (d = ByteArray.empty) else decide (v = 0) && decide (d = ByteArray.empty)
theorem recOk_iff (k t i v : Int) (d : ByteArray) : recOk ⟨k, t, i, v, d⟩ = (bnd k t i v d.size && rest0 k t i v d) := by
 rw [Bool.eq_iff_iff]
 unfold recOk bnd rest0 based inIt
 have hz : d = ByteArray.empty → (d.size : Int) = 0 := fun h => by subst h; rfl
 by_cases k1 : k = 1
 ·subst k1
  simp
  constructor <;> intro h <;> simp [h]
 by_cases k2 : k = 2
 ·subst k2
  simp
  omega
 by_cases k3 : k = 3
 ·subst k3
  simp
  constructor <;> intro h <;> simp [h]
 by_cases k4 : k = 4
 ·subst k4
  by_cases hd : d = ByteArray.empty
  ·have := hz hd
   by_cases hi : i = 0
   ·subst hi
    simp [hd]
   ·simp [hd, hi]
    omega
  ·simp [hd]
 ·simp [k1, k2, k3, k4]
theorem empty_eqs (d : ByteArray) : ([] == d.toList) = decide (d = ByteArray.empty) := by
 rw [← empty_beq]
 cases d.toList <;> rfl
set_option maxHeartbeats 1000000 in
theorem recordOf_no (k t i v : Int) (d : ByteArray) (w : World) (hd : d.size ≤ maxLen) (hn : bnd k t i v d.size = false) : Calls Tryz.prog 99 #[.agg #[.int .i64 k, .int .i64 t, .int .i64 i, .int .i64 v, .string d]] w fun e w' => e = .returned .nilIface ∧ Below w.heap.size w w' := by
 have c1 := fun wx => inBoundsV k t i v d wx hd
 rw [hn] at c1
 have hb0 : Below w.heap.size w (w.alloc (.cells #[.int .i64 k, .int .i64 t, .int .i64 i, .int .i64 v, .string d] 102)) := (Below.refl _ _).alloc (Nat.le_refl _) _
 go_enter Tryz.func99, Tryz.ntmps99
 go_wp2_with fail
 generalize w.alloc (.cells #[.int .i64 k, .int .i64 t, .int .i64 i, .int .i64 v, .string d] 102) = W at *
 refine (c1 _).mono ?_
 rintro e w1 ⟨rfl, hb1⟩
 have B1 : Hid (Below w.heap.size w w1) := hb0.trans (hb1.mono hb0.size)
 clear hb0 hb1 c1
 go_wp2_with fail
 go_ret
 exact ⟨rfl, B1.out⟩
set_option maxHeartbeats 2000000 in
theorem recordOf_hard (t i v : Int) (d : ByteArray) (w : World) (hd : d.size ≤ maxLen) (hn : bnd 1 t i v d.size = true) : Calls Tryz.prog 99 #[.agg #[.int .i64 1, .int .i64 t, .int .i64 i, .int .i64 v, .string d]] w fun e w' => e = .returned (recV ⟨1, t, i, v, d⟩) ∧ Below w.heap.size w w' := by
 have HE : Hid (recV ⟨1, t, i, v, d⟩ = if (decide (i = 0) && decide (d = ByteArray.empty)) = true then kindV ⟨1, t, i, v, d⟩ else .nilIface) := by unfold Hid recV; rw [recOk_iff, hn, Bool.true_and]; rfl
 have c1 := fun wx => inBoundsV 1 t i v d wx hd
 rw [hn] at c1
 have c2 := fun wx => kindOfV 1 t i v d wx
 have c3 := fun wx => hardRec t v wx
 have hb0 : Below w.heap.size w (w.alloc (.cells #[.int .i64 1, .int .i64 t, .int .i64 i, .int .i64 v, .string d] 102)) := (Below.refl _ _).alloc (Nat.le_refl _) _
 have k0 := Blk.new w #[.int .i64 1, .int .i64 t, .int .i64 i, .int .i64 v, .string d] 102
 clear hd hn
 go_enter Tryz.func99, Tryz.ntmps99
 go_wp2_with fail
 generalize w.alloc (.cells #[.int .i64 1, .int .i64 t, .int .i64 i, .int .i64 v, .string d] 102) = W at *
 refine (c1 _).mono ?_
 rintro e w1 ⟨rfl, hb1⟩
 have B1 : Hid (Below w.heap.size w w1) := hb0.trans (hb1.mono hb0.size)
 have k1 := k0.on hb1 k0.lt
 clear hb0 hb1 c1 k0
 have e0 := k1.cell 0 (.int .i64 1) rfl
 have e1 := k1.cell 1 (.int .i64 t) rfl
 have e2 := k1.cell 2 (.int .i64 i) rfl
 have e3 := k1.cell 3 (.int .i64 v) rfl
 have e4 := k1.cell 4 (.string d) rfl
 have K1 : Hid (Blk w1 w.heap.size _ _) := k1
 clear k1
 go_wp2_with fail
 refine (c2 _).mono ?_
 rintro e w2 ⟨rfl, hb2⟩
 have B2 : Hid (Below w.heap.size w w2) := B1.out.trans (hb2.mono B1.out.size)
 have k2 := K1.out.on hb2 K1.out.lt
 have hlt : w.heap.size < w2.heap.size := k2.lt
 clear hb2 e0 e1 e2 e3 e4 K1 B1
 have e0 := k2.cell 0 (.int .i64 1) rfl
 have e1 := k2.cell 1 (.int .i64 t) rfl
 have e2 := k2.cell 2 (.int .i64 i) rfl
 have e3 := k2.cell 3 (.int .i64 v) rfl
 have e4 := k2.cell 4 (.string d) rfl
 clear k2 c2
 rw [show kindV ⟨1, t, i, v, d⟩ = .iface 165 (.agg #[.int .i64 t, .int .i64 v]) from rfl]
 by_cases hzi : i = 0
 ·subst hzi
  rw [decide_eq_true rfl] at HE
  have hb1 := empty_beq d
  have hb2 := empty_eqs d
  cases hdd : decide (d = ByteArray.empty) <;> rw [hdd] at hb1 hb2 HE <;> clear hdd
  ·have HE : Hid (recV ⟨1, t, 0, v, d⟩ = .nilIface) := by unfold Hid; rw [HE.out]; rfl
   go_wp2_with fail
   go_region_with (go_at_call 144; refine (c3 _).mono ?_; rintro e w3 ⟨rfl, hb3⟩; have a0 := (hb3.cell (p := ⟨w.heap.size, 0, none⟩) hlt).trans e0; have a1 := (hb3.cell (p := ⟨w.heap.size, 1, none⟩) hlt).trans e1; have a2 := (hb3.cell (p := ⟨w.heap.size, 2, none⟩) hlt).trans e2; have a3 := (hb3.cell (p := ⟨w.heap.size, 3, none⟩) hlt).trans e3; have a4 := (hb3.cell (p := ⟨w.heap.size, 4, none⟩) hlt).trans e4)
   all_goals go_wp2_with fail
   all_goals go_ret
   all_goals exact ⟨by rw [HE.out]; first | rfl | simp [kindV], B2.out.trans (((Below.refl _ w2).drew.trans hb3).mono B2.out.size)⟩
  ·have HE : Hid (recV ⟨1, t, 0, v, d⟩ = kindV ⟨1, t, 0, v, d⟩) := by unfold Hid; rw [HE.out]; rfl
   go_wp2_with fail
   go_region_with (go_at_call 144; refine (c3 _).mono ?_; rintro e w3 ⟨rfl, hb3⟩; have a0 := (hb3.cell (p := ⟨w.heap.size, 0, none⟩) hlt).trans e0; have a1 := (hb3.cell (p := ⟨w.heap.size, 1, none⟩) hlt).trans e1; have a2 := (hb3.cell (p := ⟨w.heap.size, 2, none⟩) hlt).trans e2; have a3 := (hb3.cell (p := ⟨w.heap.size, 3, none⟩) hlt).trans e3; have a4 := (hb3.cell (p := ⟨w.heap.size, 4, none⟩) hlt).trans e4)
   all_goals go_wp2_with fail
   all_goals go_ret
   all_goals exact ⟨by rw [HE.out]; first | rfl | simp [kindV], B2.out.trans (((Below.refl _ w2).drew.trans hb3).mono B2.out.size)⟩
 ·rw [decide_eq_false hzi] at HE
  have HE : Hid (recV ⟨1, t, i, v, d⟩ = .nilIface) := by unfold Hid; rw [HE.out]; first | rfl | simp
  have zi : ((0 : Int) == i) = false := by simpa using Ne.symm hzi
  go_wp2_with fail
  go_region_with (go_at_call 144; refine (c3 _).mono ?_; rintro e w3 ⟨rfl, hb3⟩; have a0 := (hb3.cell (p := ⟨w.heap.size, 0, none⟩) hlt).trans e0; have a1 := (hb3.cell (p := ⟨w.heap.size, 1, none⟩) hlt).trans e1; have a2 := (hb3.cell (p := ⟨w.heap.size, 2, none⟩) hlt).trans e2; have a3 := (hb3.cell (p := ⟨w.heap.size, 3, none⟩) hlt).trans e3; have a4 := (hb3.cell (p := ⟨w.heap.size, 4, none⟩) hlt).trans e4)
  all_goals go_wp2_with fail
  all_goals go_ret
  all_goals exact ⟨by rw [HE.out]; first | rfl | simp [kindV], B2.out.trans (((Below.refl _ w2).drew.trans hb3).mono B2.out.size)⟩
set_option maxHeartbeats 2000000 in
theorem recordOf_entry (t i v : Int) (d : ByteArray) (w : World) (hd : d.size ≤ maxLen) (hn : bnd 2 t i v d.size = true) : Calls Tryz.prog 99 #[.agg #[.int .i64 2, .int .i64 t, .int .i64 i, .int .i64 v, .string d]] w fun e w' => e = .returned (recV ⟨2, t, i, v, d⟩) ∧ Below w.heap.size w w' := by
 have HE : Hid (recV ⟨2, t, i, v, d⟩ = if (decide (v = 0)) = true then kindV ⟨2, t, i, v, d⟩ else .nilIface) := by unfold Hid recV; rw [recOk_iff, hn, Bool.true_and]; rfl
 have c1 := fun wx => inBoundsV 2 t i v d wx hd
 rw [hn] at c1
 have c2 := fun wx => kindOfV 2 t i v d wx
 have c3 := fun wx => entryRec i t d wx
 have hb0 : Below w.heap.size w (w.alloc (.cells #[.int .i64 2, .int .i64 t, .int .i64 i, .int .i64 v, .string d] 102)) := (Below.refl _ _).alloc (Nat.le_refl _) _
 have k0 := Blk.new w #[.int .i64 2, .int .i64 t, .int .i64 i, .int .i64 v, .string d] 102
 clear hd hn
 go_enter Tryz.func99, Tryz.ntmps99
 go_wp2_with fail
 generalize w.alloc (.cells #[.int .i64 2, .int .i64 t, .int .i64 i, .int .i64 v, .string d] 102) = W at *
 refine (c1 _).mono ?_
 rintro e w1 ⟨rfl, hb1⟩
 have B1 : Hid (Below w.heap.size w w1) := hb0.trans (hb1.mono hb0.size)
 have k1 := k0.on hb1 k0.lt
 clear hb0 hb1 c1 k0
 have e0 := k1.cell 0 (.int .i64 2) rfl
 have e1 := k1.cell 1 (.int .i64 t) rfl
 have e2 := k1.cell 2 (.int .i64 i) rfl
 have e3 := k1.cell 3 (.int .i64 v) rfl
 have e4 := k1.cell 4 (.string d) rfl
 have K1 : Hid (Blk w1 w.heap.size _ _) := k1
 clear k1
 go_wp2_with fail
 refine (c2 _).mono ?_
 rintro e w2 ⟨rfl, hb2⟩
 have B2 : Hid (Below w.heap.size w w2) := B1.out.trans (hb2.mono B1.out.size)
 have k2 := K1.out.on hb2 K1.out.lt
 have hlt : w.heap.size < w2.heap.size := k2.lt
 clear hb2 e0 e1 e2 e3 e4 K1 B1
 have e0 := k2.cell 0 (.int .i64 2) rfl
 have e1 := k2.cell 1 (.int .i64 t) rfl
 have e2 := k2.cell 2 (.int .i64 i) rfl
 have e3 := k2.cell 3 (.int .i64 v) rfl
 have e4 := k2.cell 4 (.string d) rfl
 clear k2 c2
 rw [show kindV ⟨2, t, i, v, d⟩ = .iface 167 (.agg #[.int .i64 i, .int .i64 t, .string d]) from rfl]
 by_cases hzv : v = 0
 ·subst hzv
  rw [decide_eq_true rfl] at HE
  have HE : Hid (recV ⟨2, t, i, 0, d⟩ = kindV ⟨2, t, i, 0, d⟩) := by unfold Hid; rw [HE.out]; rfl
  go_wp2_with fail
  go_region_with (go_at_call 145; refine (c3 _).mono ?_; rintro e w3 ⟨rfl, hb3⟩; have a0 := (hb3.cell (p := ⟨w.heap.size, 0, none⟩) hlt).trans e0; have a1 := (hb3.cell (p := ⟨w.heap.size, 1, none⟩) hlt).trans e1; have a2 := (hb3.cell (p := ⟨w.heap.size, 2, none⟩) hlt).trans e2; have a3 := (hb3.cell (p := ⟨w.heap.size, 3, none⟩) hlt).trans e3; have a4 := (hb3.cell (p := ⟨w.heap.size, 4, none⟩) hlt).trans e4)
  all_goals go_wp2_with fail
  all_goals go_ret
  all_goals exact ⟨by rw [HE.out]; first | rfl | simp [kindV], B2.out.trans (((Below.refl _ w2).drew.trans hb3).mono B2.out.size)⟩
 ·rw [decide_eq_false hzv] at HE
  have HE : Hid (recV ⟨2, t, i, v, d⟩ = .nilIface) := by unfold Hid; rw [HE.out]; first | rfl | simp
  have zv : ((0 : Int) == v) = false := by simpa using Ne.symm hzv
  go_wp2_with fail
  go_region_with (go_at_call 145; refine (c3 _).mono ?_; rintro e w3 ⟨rfl, hb3⟩; have a0 := (hb3.cell (p := ⟨w.heap.size, 0, none⟩) hlt).trans e0; have a1 := (hb3.cell (p := ⟨w.heap.size, 1, none⟩) hlt).trans e1; have a2 := (hb3.cell (p := ⟨w.heap.size, 2, none⟩) hlt).trans e2; have a3 := (hb3.cell (p := ⟨w.heap.size, 3, none⟩) hlt).trans e3; have a4 := (hb3.cell (p := ⟨w.heap.size, 4, none⟩) hlt).trans e4)
  all_goals go_wp2_with fail
  all_goals go_ret
  all_goals exact ⟨by rw [HE.out]; first | rfl | simp [kindV], B2.out.trans (((Below.refl _ w2).drew.trans hb3).mono B2.out.size)⟩
set_option maxHeartbeats 2000000 in
theorem recordOf_cut (t i v : Int) (d : ByteArray) (w : World) (hd : d.size ≤ maxLen) (hn : bnd 3 t i v d.size = true) : Calls Tryz.prog 99 #[.agg #[.int .i64 3, .int .i64 t, .int .i64 i, .int .i64 v, .string d]] w fun e w' => e = .returned (recV ⟨3, t, i, v, d⟩) ∧ Below w.heap.size w w' := by
 have HE : Hid (recV ⟨3, t, i, v, d⟩ = if (decide (t = 0) && decide (v = 0) && decide (d = ByteArray.empty)) = true then kindV ⟨3, t, i, v, d⟩ else .nilIface) := by unfold Hid recV; rw [recOk_iff, hn, Bool.true_and]; rfl
 have c1 := fun wx => inBoundsV 3 t i v d wx hd
 rw [hn] at c1
 have c2 := fun wx => kindOfV 3 t i v d wx
 have c3 := fun wx => cutRec i wx
 have hb0 : Below w.heap.size w (w.alloc (.cells #[.int .i64 3, .int .i64 t, .int .i64 i, .int .i64 v, .string d] 102)) := (Below.refl _ _).alloc (Nat.le_refl _) _
 have k0 := Blk.new w #[.int .i64 3, .int .i64 t, .int .i64 i, .int .i64 v, .string d] 102
 clear hd hn
 go_enter Tryz.func99, Tryz.ntmps99
 go_wp2_with fail
 generalize w.alloc (.cells #[.int .i64 3, .int .i64 t, .int .i64 i, .int .i64 v, .string d] 102) = W at *
 refine (c1 _).mono ?_
 rintro e w1 ⟨rfl, hb1⟩
 have B1 : Hid (Below w.heap.size w w1) := hb0.trans (hb1.mono hb0.size)
 have k1 := k0.on hb1 k0.lt
 clear hb0 hb1 c1 k0
 have e0 := k1.cell 0 (.int .i64 3) rfl
 have e1 := k1.cell 1 (.int .i64 t) rfl
 have e2 := k1.cell 2 (.int .i64 i) rfl
 have e3 := k1.cell 3 (.int .i64 v) rfl
 have e4 := k1.cell 4 (.string d) rfl
 have K1 : Hid (Blk w1 w.heap.size _ _) := k1
 clear k1
 go_wp2_with fail
 refine (c2 _).mono ?_
 rintro e w2 ⟨rfl, hb2⟩
 have B2 : Hid (Below w.heap.size w w2) := B1.out.trans (hb2.mono B1.out.size)
 have k2 := K1.out.on hb2 K1.out.lt
 have hlt : w.heap.size < w2.heap.size := k2.lt
 clear hb2 e0 e1 e2 e3 e4 K1 B1
 have e0 := k2.cell 0 (.int .i64 3) rfl
 have e1 := k2.cell 1 (.int .i64 t) rfl
 have e2 := k2.cell 2 (.int .i64 i) rfl
 have e3 := k2.cell 3 (.int .i64 v) rfl
 have e4 := k2.cell 4 (.string d) rfl
 clear k2 c2
 rw [show kindV ⟨3, t, i, v, d⟩ = .iface 169 (.agg #[.int .i64 i]) from rfl]
 by_cases hzt : t = 0
 ·subst hzt
  rw [decide_eq_true rfl] at HE
  by_cases hzv : v = 0
  ·subst hzv
   rw [decide_eq_true rfl] at HE
   have hb1 := empty_beq d
   have hb2 := empty_eqs d
   cases hdd : decide (d = ByteArray.empty) <;> rw [hdd] at hb1 hb2 HE <;> clear hdd
   ·have HE : Hid (recV ⟨3, 0, i, 0, d⟩ = .nilIface) := by unfold Hid; rw [HE.out]; rfl
    go_wp2_with fail
    go_region_with (go_at_call 146; refine (c3 _).mono ?_; rintro e w3 ⟨rfl, hb3⟩; have a0 := (hb3.cell (p := ⟨w.heap.size, 0, none⟩) hlt).trans e0; have a1 := (hb3.cell (p := ⟨w.heap.size, 1, none⟩) hlt).trans e1; have a2 := (hb3.cell (p := ⟨w.heap.size, 2, none⟩) hlt).trans e2; have a3 := (hb3.cell (p := ⟨w.heap.size, 3, none⟩) hlt).trans e3; have a4 := (hb3.cell (p := ⟨w.heap.size, 4, none⟩) hlt).trans e4)
    all_goals go_wp2_with fail
    all_goals go_ret
    all_goals exact ⟨by rw [HE.out]; first | rfl | simp [kindV], B2.out.trans (((Below.refl _ w2).drew.trans hb3).mono B2.out.size)⟩
   ·have HE : Hid (recV ⟨3, 0, i, 0, d⟩ = kindV ⟨3, 0, i, 0, d⟩) := by unfold Hid; rw [HE.out]; rfl
    go_wp2_with fail
    go_region_with (go_at_call 146; refine (c3 _).mono ?_; rintro e w3 ⟨rfl, hb3⟩; have a0 := (hb3.cell (p := ⟨w.heap.size, 0, none⟩) hlt).trans e0; have a1 := (hb3.cell (p := ⟨w.heap.size, 1, none⟩) hlt).trans e1; have a2 := (hb3.cell (p := ⟨w.heap.size, 2, none⟩) hlt).trans e2; have a3 := (hb3.cell (p := ⟨w.heap.size, 3, none⟩) hlt).trans e3; have a4 := (hb3.cell (p := ⟨w.heap.size, 4, none⟩) hlt).trans e4)
    all_goals go_wp2_with fail
    all_goals go_ret
    all_goals exact ⟨by rw [HE.out]; first | rfl | simp [kindV], B2.out.trans (((Below.refl _ w2).drew.trans hb3).mono B2.out.size)⟩
  ·rw [decide_eq_false hzv] at HE
   have HE : Hid (recV ⟨3, 0, i, v, d⟩ = .nilIface) := by unfold Hid; rw [HE.out]; first | rfl | simp
   have zv : ((0 : Int) == v) = false := by simpa using Ne.symm hzv
   go_wp2_with fail
   go_region_with (go_at_call 146; refine (c3 _).mono ?_; rintro e w3 ⟨rfl, hb3⟩; have a0 := (hb3.cell (p := ⟨w.heap.size, 0, none⟩) hlt).trans e0; have a1 := (hb3.cell (p := ⟨w.heap.size, 1, none⟩) hlt).trans e1; have a2 := (hb3.cell (p := ⟨w.heap.size, 2, none⟩) hlt).trans e2; have a3 := (hb3.cell (p := ⟨w.heap.size, 3, none⟩) hlt).trans e3; have a4 := (hb3.cell (p := ⟨w.heap.size, 4, none⟩) hlt).trans e4)
   all_goals go_wp2_with fail
   all_goals go_ret
   all_goals exact ⟨by rw [HE.out]; first | rfl | simp [kindV], B2.out.trans (((Below.refl _ w2).drew.trans hb3).mono B2.out.size)⟩
 ·rw [decide_eq_false hzt] at HE
  have HE : Hid (recV ⟨3, t, i, v, d⟩ = .nilIface) := by unfold Hid; rw [HE.out]; first | rfl | simp
  have zt : ((0 : Int) == t) = false := by simpa using Ne.symm hzt
  go_wp2_with fail
  go_region_with (go_at_call 146; refine (c3 _).mono ?_; rintro e w3 ⟨rfl, hb3⟩; have a0 := (hb3.cell (p := ⟨w.heap.size, 0, none⟩) hlt).trans e0; have a1 := (hb3.cell (p := ⟨w.heap.size, 1, none⟩) hlt).trans e1; have a2 := (hb3.cell (p := ⟨w.heap.size, 2, none⟩) hlt).trans e2; have a3 := (hb3.cell (p := ⟨w.heap.size, 3, none⟩) hlt).trans e3; have a4 := (hb3.cell (p := ⟨w.heap.size, 4, none⟩) hlt).trans e4)
  all_goals go_wp2_with fail
  all_goals go_ret
  all_goals exact ⟨by rw [HE.out]; first | rfl | simp [kindV], B2.out.trans (((Below.refl _ w2).drew.trans hb3).mono B2.out.size)⟩
set_option maxHeartbeats 2000000 in
theorem recordOf_base (t i v : Int) (d : ByteArray) (w : World) (hd : d.size ≤ maxLen) (hn : bnd 4 t i v d.size = true) : Calls Tryz.prog 99 #[.agg #[.int .i64 4, .int .i64 t, .int .i64 i, .int .i64 v, .string d]] w fun e w' => e = .returned (recV ⟨4, t, i, v, d⟩) ∧ Below w.heap.size w w' := by
 have HE : Hid (recV ⟨4, t, i, v, d⟩ = if (decide (v = 0) && decide (d = ByteArray.empty)) = true then kindV ⟨4, t, i, v, d⟩ else .nilIface) := by unfold Hid recV; rw [recOk_iff, hn, Bool.true_and]; rfl
 have c1 := fun wx => inBoundsV 4 t i v d wx hd
 rw [hn] at c1
 have c2 := fun wx => kindOfV 4 t i v d wx
 have c3 := fun wx => baseRec i t wx
 have hb0 : Below w.heap.size w (w.alloc (.cells #[.int .i64 4, .int .i64 t, .int .i64 i, .int .i64 v, .string d] 102)) := (Below.refl _ _).alloc (Nat.le_refl _) _
 have k0 := Blk.new w #[.int .i64 4, .int .i64 t, .int .i64 i, .int .i64 v, .string d] 102
 clear hd hn
 go_enter Tryz.func99, Tryz.ntmps99
 go_wp2_with fail
 generalize w.alloc (.cells #[.int .i64 4, .int .i64 t, .int .i64 i, .int .i64 v, .string d] 102) = W at *
 refine (c1 _).mono ?_
 rintro e w1 ⟨rfl, hb1⟩
 have B1 : Hid (Below w.heap.size w w1) := hb0.trans (hb1.mono hb0.size)
 have k1 := k0.on hb1 k0.lt
 clear hb0 hb1 c1 k0
 have e0 := k1.cell 0 (.int .i64 4) rfl
 have e1 := k1.cell 1 (.int .i64 t) rfl
 have e2 := k1.cell 2 (.int .i64 i) rfl
 have e3 := k1.cell 3 (.int .i64 v) rfl
 have e4 := k1.cell 4 (.string d) rfl
 have K1 : Hid (Blk w1 w.heap.size _ _) := k1
 clear k1
 go_wp2_with fail
 refine (c2 _).mono ?_
 rintro e w2 ⟨rfl, hb2⟩
 have B2 : Hid (Below w.heap.size w w2) := B1.out.trans (hb2.mono B1.out.size)
 have k2 := K1.out.on hb2 K1.out.lt
 have hlt : w.heap.size < w2.heap.size := k2.lt
 clear hb2 e0 e1 e2 e3 e4 K1 B1
 have e0 := k2.cell 0 (.int .i64 4) rfl
 have e1 := k2.cell 1 (.int .i64 t) rfl
 have e2 := k2.cell 2 (.int .i64 i) rfl
 have e3 := k2.cell 3 (.int .i64 v) rfl
 have e4 := k2.cell 4 (.string d) rfl
 clear k2 c2
 rw [show kindV ⟨4, t, i, v, d⟩ = .iface 161 (.agg #[.int .i64 i, .int .i64 t]) from rfl]
 by_cases hzv : v = 0
 ·subst hzv
  rw [decide_eq_true rfl] at HE
  have hb1 := empty_beq d
  have hb2 := empty_eqs d
  cases hdd : decide (d = ByteArray.empty) <;> rw [hdd] at hb1 hb2 HE <;> clear hdd
  ·have HE : Hid (recV ⟨4, t, i, 0, d⟩ = .nilIface) := by unfold Hid; rw [HE.out]; rfl
   go_wp2_with fail
   go_region_with (go_at_call 143; refine (c3 _).mono ?_; rintro e w3 ⟨rfl, hb3⟩; have a0 := (hb3.cell (p := ⟨w.heap.size, 0, none⟩) hlt).trans e0; have a1 := (hb3.cell (p := ⟨w.heap.size, 1, none⟩) hlt).trans e1; have a2 := (hb3.cell (p := ⟨w.heap.size, 2, none⟩) hlt).trans e2; have a3 := (hb3.cell (p := ⟨w.heap.size, 3, none⟩) hlt).trans e3; have a4 := (hb3.cell (p := ⟨w.heap.size, 4, none⟩) hlt).trans e4)
   all_goals go_wp2_with fail
   all_goals go_ret
   all_goals exact ⟨by rw [HE.out]; first | rfl | simp [kindV], B2.out.trans (((Below.refl _ w2).drew.trans hb3).mono B2.out.size)⟩
  ·have HE : Hid (recV ⟨4, t, i, 0, d⟩ = kindV ⟨4, t, i, 0, d⟩) := by unfold Hid; rw [HE.out]; rfl
   go_wp2_with fail
   go_region_with (go_at_call 143; refine (c3 _).mono ?_; rintro e w3 ⟨rfl, hb3⟩; have a0 := (hb3.cell (p := ⟨w.heap.size, 0, none⟩) hlt).trans e0; have a1 := (hb3.cell (p := ⟨w.heap.size, 1, none⟩) hlt).trans e1; have a2 := (hb3.cell (p := ⟨w.heap.size, 2, none⟩) hlt).trans e2; have a3 := (hb3.cell (p := ⟨w.heap.size, 3, none⟩) hlt).trans e3; have a4 := (hb3.cell (p := ⟨w.heap.size, 4, none⟩) hlt).trans e4)
   all_goals go_wp2_with fail
   all_goals go_ret
   all_goals exact ⟨by rw [HE.out]; first | rfl | simp [kindV], B2.out.trans (((Below.refl _ w2).drew.trans hb3).mono B2.out.size)⟩
 ·rw [decide_eq_false hzv] at HE
  have HE : Hid (recV ⟨4, t, i, v, d⟩ = .nilIface) := by unfold Hid; rw [HE.out]; first | rfl | simp
  have zv : ((0 : Int) == v) = false := by simpa using Ne.symm hzv
  go_wp2_with fail
  go_region_with (go_at_call 143; refine (c3 _).mono ?_; rintro e w3 ⟨rfl, hb3⟩; have a0 := (hb3.cell (p := ⟨w.heap.size, 0, none⟩) hlt).trans e0; have a1 := (hb3.cell (p := ⟨w.heap.size, 1, none⟩) hlt).trans e1; have a2 := (hb3.cell (p := ⟨w.heap.size, 2, none⟩) hlt).trans e2; have a3 := (hb3.cell (p := ⟨w.heap.size, 3, none⟩) hlt).trans e3; have a4 := (hb3.cell (p := ⟨w.heap.size, 4, none⟩) hlt).trans e4)
  all_goals go_wp2_with fail
  all_goals go_ret
  all_goals exact ⟨by rw [HE.out]; first | rfl | simp [kindV], B2.out.trans (((Below.refl _ w2).drew.trans hb3).mono B2.out.size)⟩
theorem recordOfV (r : Rcd) (w : World) (hd : r.data.size ≤ maxLen) : Calls Tryz.prog 99 #[vRcd r] w fun e w' => e = .returned (recV r) ∧ Below w.heap.size w w' := by
 obtain ⟨k, t, i, v, d⟩ := r
 cases hn : bnd k t i v d.size
 ·have : recV ⟨k, t, i, v, d⟩ = .nilIface := by unfold recV; rw [recOk_iff, hn]; rfl
  rw [this]
  exact recordOf_no k t i v d w hd hn
 ·have hh := of_decide_eq_true hn
  rcases (show k = 1 ∨ k = 2 ∨ k = 3 ∨ k = 4 by omega) with rfl | rfl | rfl | rfl
  ·exact recordOf_hard t i v d w hd hn
  ·exact recordOf_entry t i v d w hd hn
  ·exact recordOf_cut t i v d w hd hn
  ·exact recordOf_base t i v d w hd hn
end Go.Proofs.YtdimaoloapbeoaaGreatDoor
namespace Go.Proofs.YtdimaoloapbeoaaGreatDoor
open Go.ChangeShapes Go.WideShapes Go.ChangeAt Go.RowKit Go.PlainAid
set_option linter.unusedVariables false
set_option maxHeartbeats 400000 in
theorem in_yes (x lo hi : Int) (w : World) (h1 : lo ≤ x) (h2 : x ≤ hi) :
  Calls Tryz.prog 43 #[.int .i64 x, .int .i64 lo, .int .i64 hi] w fun e w' => e = .returned (.bool true) ∧ w = w' := by
 go_enter Tryz.func43, Tryz.ntmps43
 go_wp2
 go_ret
 exact ⟨rfl, rfl⟩
set_option maxHeartbeats 400000 in
theorem spec_var (n : Nat) (w : World) (h1 : n ≤ 562949953421311) :
  Calls Tryz.prog 108 #[.int .i64 (n : Int)] w fun e w' => e = .returned (.string (txt (vF 6 n))) ∧ Below w.heap.size w w' := by
 have q1 : (n : Int) ≤ 562949953421311 := by omega
 go_enter Tryz.func108, Tryz.ntmps108
 go_wp2_with (go_at_call 43; refine (in_yes _ _ _ _ (by omega) (by omega)).mono ?_; rintro e w' ⟨rfl, rfl⟩)
 go_loopw [0, 3] (fun v0 v3 wr => ∃ m f : Nat, ∃ pre : List UInt8, v0 = .int .i64 m ∧ m ≤ 562949953421311 ∧ m < 128 ^ (f + 1) ∧ pre ++ vF f m = vF 6 n ∧ Buf wr w.heap.size v3 pre ∧ Below w.heap.size w wr) (fun i _ _ => (intOf i).toNat)
 case atStart => exact ⟨n, 6, [], rfl, h1, by omega, rfl, Buf.made w w.heap.size 0 #[] (Nat.le_refl _) (by simp [maxLen]) rfl, (Below.refl _ _).alloc (Nat.le_refl _) _⟩
 case round =>
  obtain ⟨m, f, pre, rfl, hm1, hm2, hpre, hbuf, hb⟩ := hrel
  have HP : Hid (pre ++ vF f m = vF 6 n) := hpre
  clear hpre
  have HM : Hid (m < 128 ^ (f + 1)) := hm2
  clear hm2
  have hlp : pre.length ≤ 7 := by
   have := congrArg List.length HP.out
   have := vF_length 6 n
   simp at *
   omega
  have hsz := hb.size
  by_cases hlt : (128 : Int) ≤ (m : Int)
  ·have hcs := one_cell (128 + (m : Int) % 128) (128 + m % 128) (by omega) (by omega)
   have HC : Hid (#[Value.int .u8 (128 + (m : Int) % 128)] = byteCells [byt (128 + m % 128)]) := hcs
   clear hcs
   go_wp2_with (at_builtin; refine wpList_append_bytes rfl (.tmp 10) (.tmp 15) 172 rfl Tryz.underlying172 Tryz.info5 w.heap.size _ pre rfl hbuf _ [byt (128 + m % 128)] HC.out 1 1 rfl rfl (by simp; omega) hsz ?_; intro v' w1 hbuf1 hb1)
   obtain ⟨g, hg1, hg2, _⟩ := vF_round f m pre HM.out (by omega)
   go_roundw
   case rel => exact ⟨m / 128, g, pre ++ [byt (128 + m % 128)], by go_num, by omega, hg1, hg2.trans HP.out, hbuf1, hb.trans hb1⟩
   case measure => simp [intOf]; omega
  ·have hcs := one_cell (m : Int) m rfl (by omega)
   have HC : Hid (#[Value.int .u8 (m : Int)] = byteCells [byt m]) := hcs
   clear hcs
   go_wp2_with (at_builtin; refine wpList_append_bytes rfl (.tmp 19) (.tmp 22) 172 rfl Tryz.underlying172 Tryz.info5 w.heap.size _ pre rfl hbuf _ [byt m] HC.out 1 1 rfl rfl (by simp; omega) hsz ?_; intro v' w1 hbuf1 hb1; have hcv := hbuf1.string (P := Tryz.prog) 172 9 Tryz.underlying172 Tryz.underlying5 Tryz.underlying9)
   go_ret
   exact ⟨by rw [← HP.out, vF_small f m (by omega)]; rfl, hb.trans hb1⟩
end Go.Proofs.YtdimaoloapbeoaaGreatDoor
