/- OpS CmOpS -/
import Derived.Test.YtifmjdakefkbiaaGreatDoorRows
import Derived.Test.YtifmjdakefkbiaaGreatDoorQt3
import Derived.Test.YtifmjdakefkbiaaGreatDoorQt7
import Derived.Test.YtifmjdakefkbiaaGreatDoorQt6
import Derived.WalkKit
import Derived.ProofKit
import Derived.OpenShut
import Derived.Below
import Derived.WalkSmall
import Derived.WalkLawsBesides
import Derived.Outline
import Derived.BigQuiet
import Derived.Deep.QuietTactic
import Derived.Handy
import Derived.Deep.Cut
import Derived.Deep.CutRange
import Derived.Laws.StructEq
import Derived.Test.YtifmjdakefkbiaaGreatDoorQt2
import Derived.Test.YtifmjdakefkbiaaGreatDoorQt0
open List (setIfInBounds_toArray set_cons_zero set_cons_succ)
namespace Go.Proofs.YtifmjdakefkbiaaGreatDoor
open Go.ChangeShapes Go.WideShapes Go.ChangeAt Go.RowKit Go.PlainAid
set_option linter.unusedVariables false
set_option maxHeartbeats 8000000 in
theorem specOpOk_1 (k : ByteArray) (f t : Int) (d : ByteArray) (w : World) (hk : k.size ≤ maxLen) : Calls Tryz.prog 119 #[vOp ⟨1, k, f, t, d⟩] w fun e w' => e = .returned (.bool (opOk ⟨1, k, f, t, d⟩)) ∧ Below w.heap.size w w' := by
 have HE : Hid (opOk ⟨1, k, f, t, d⟩ = (spanB f t && emB k && emB d)) := by unfold Hid opOk; simp
 have HB : Hid (∀ o, Below w.heap.size w ((w.alloc (.cells #[.int .i64 1, .string k, .int .i64 f, .int .i64 t, .string d] 38)).alloc o)) := fun o => ((below_a1 _ _).alloc (by simp) o)
 have cI := inS f 0 1099511627776
 have cH := inS f 0 100000
 have cK := fun wx => specKey k wx hk
 clear hk
 rw [show decide (KOk k) = keyB k from by unfold keyB; first | rfl | congr] at cK
 unfold vOp
 simp only
 go_enter Tryz.func119, Tryz.ntmps119
 go_upto_region 1 with fail
 go_cut [3] from 8 to 22 (fun s3 wc => s3 = .bool (spanB f t) ∧ wc = w.alloc (.cells #[.int .i64 1, .string k, .int .i64 f, .int .i64 t, .string d] 38))
 case first =>
  clear HE HB
  by_cases h1 : 0 ≤ f
  ·by_cases h2 : f < t
   ·by_cases h3 : t ≤ 1099511627776
    ·go_wp2_with fail
     go_meet
     exact ⟨by simp [spanB, *], rfl⟩
    ·have d3 : decide (t ≤ 1099511627776) = false := decide_eq_false h3
     go_wp2_with fail
     go_meet
     exact ⟨by simp [spanB, *], rfl⟩
   ·have d2 : decide (f < t) = false := decide_eq_false h2
    go_wp2_with fail
    go_meet
    exact ⟨by simp [spanB, *], rfl⟩
  ·have d1 : decide (0 ≤ f) = false := decide_eq_false h1
   go_wp2_with fail
   go_meet
   exact ⟨by simp [spanB, *], rfl⟩
 case rest =>
  obtain ⟨rfl, rfl⟩ := hcut
  by_cases hk : k = ⟨#[]⟩
  ·subst hk
   rw [em_nil] at HE
   by_cases hd : d = ⟨#[]⟩
   ·subst hd
    rw [em_nil] at HE
    cases hc : spanB f t <;> rw [hc] at HE
    ·go_wp2_with fail
     go_ret
     exact ⟨by rw [HE.out]; first | rfl | simp, HB.out _⟩
    ·go_wp2_with fail
     go_ret
     exact ⟨by rw [HE.out]; first | rfl | simp, HB.out _⟩
   ·obtain ⟨ed1, ed2, ed3, ed4⟩ := em_facts hd
    rw [ed4] at HE
    clear ed4 hd
    cases hc : spanB f t <;> rw [hc] at HE
    ·go_wp2_with fail
     go_ret
     exact ⟨by rw [HE.out]; first | rfl | simp, HB.out _⟩
    ·go_wp2_with fail
     go_ret
     exact ⟨by rw [HE.out]; first | rfl | simp, HB.out _⟩
  ·obtain ⟨ek1, ek2, ek3, ek4⟩ := em_facts hk
   rw [ek4] at HE
   clear ek4 hk
   by_cases hd : d = ⟨#[]⟩
   ·subst hd
    rw [em_nil] at HE
    cases hc : spanB f t <;> rw [hc] at HE
    ·go_wp2_with fail
     go_ret
     exact ⟨by rw [HE.out]; first | rfl | simp, HB.out _⟩
    ·go_wp2_with fail
     go_ret
     exact ⟨by rw [HE.out]; first | rfl | simp, HB.out _⟩
   ·obtain ⟨ed1, ed2, ed3, ed4⟩ := em_facts hd
    rw [ed4] at HE
    clear ed4 hd
    cases hc : spanB f t <;> rw [hc] at HE
    ·go_wp2_with fail
     go_ret
     exact ⟨by rw [HE.out]; first | rfl | simp, HB.out _⟩
    ·go_wp2_with fail
     go_ret
     exact ⟨by rw [HE.out]; first | rfl | simp, HB.out _⟩
set_option maxHeartbeats 8000000 in
theorem specOpOk_2 (k : ByteArray) (f t : Int) (d : ByteArray) (w : World) (hk : k.size ≤ maxLen) : Calls Tryz.prog 119 #[vOp ⟨2, k, f, t, d⟩] w fun e w' => e = .returned (.bool (opOk ⟨2, k, f, t, d⟩)) ∧ Below w.heap.size w w' := by
 have HE : Hid (opOk ⟨2, k, f, t, d⟩ = (inRg f 0 1099511627776 && emB k && zB t && emB d)) := by unfold Hid opOk; simp
 have HB : Hid (∀ o, Below w.heap.size w ((w.alloc (.cells #[.int .i64 2, .string k, .int .i64 f, .int .i64 t, .string d] 38)).alloc o)) := fun o => ((below_a1 _ _).alloc (by simp) o)
 have cI := inS f 0 1099511627776
 have cH := inS f 0 100000
 have cK := fun wx => specKey k wx hk
 clear hk
 rw [show decide (KOk k) = keyB k from by unfold keyB; first | rfl | congr] at cK
 unfold vOp
 simp only
 go_enter Tryz.func119, Tryz.ntmps119
 go_upto_region 1 with fail
 go_cut [3] from 8 to 22 (fun s3 wc => s3 = .bool (spanB f t) ∧ wc = w.alloc (.cells #[.int .i64 2, .string k, .int .i64 f, .int .i64 t, .string d] 38))
 case first =>
  clear HE HB
  by_cases h1 : 0 ≤ f
  ·by_cases h2 : f < t
   ·by_cases h3 : t ≤ 1099511627776
    ·go_wp2_with fail
     go_meet
     exact ⟨by simp [spanB, *], rfl⟩
    ·have d3 : decide (t ≤ 1099511627776) = false := decide_eq_false h3
     go_wp2_with fail
     go_meet
     exact ⟨by simp [spanB, *], rfl⟩
   ·have d2 : decide (f < t) = false := decide_eq_false h2
    go_wp2_with fail
    go_meet
    exact ⟨by simp [spanB, *], rfl⟩
  ·have d1 : decide (0 ≤ f) = false := decide_eq_false h1
   go_wp2_with fail
   go_meet
   exact ⟨by simp [spanB, *], rfl⟩
 case rest =>
  obtain ⟨rfl, rfl⟩ := hcut
  by_cases hk : k = ⟨#[]⟩
  ·subst hk
   rw [em_nil] at HE
   by_cases ht : t = 0
   ·subst ht
    rw [z_nil] at HE
    by_cases hd : d = ⟨#[]⟩
    ·subst hd
     rw [em_nil] at HE
     go_wp2_with fail
     refine (cI _).mono ?_
     rintro e w' ⟨rfl, rfl⟩
     cases hc : inRg f 0 1099511627776 <;> rw [hc] at HE
     ·go_wp2_with fail
      go_ret
      exact ⟨by rw [HE.out]; first | rfl | simp, HB.out _⟩
     ·go_wp2_with fail
      go_ret
      exact ⟨by rw [HE.out]; first | rfl | simp, HB.out _⟩
    ·obtain ⟨ed1, ed2, ed3, ed4⟩ := em_facts hd
     rw [ed4] at HE
     clear ed4 hd
     go_wp2_with fail
     refine (cI _).mono ?_
     rintro e w' ⟨rfl, rfl⟩
     cases hc : inRg f 0 1099511627776 <;> rw [hc] at HE
     ·go_wp2_with fail
      go_ret
      exact ⟨by rw [HE.out]; first | rfl | simp, HB.out _⟩
     ·go_wp2_with fail
      go_ret
      exact ⟨by rw [HE.out]; first | rfl | simp, HB.out _⟩
   ·obtain ⟨et1, et2, et4⟩ := z_facts ht
    rw [et4] at HE
    clear et4 ht
    by_cases hd : d = ⟨#[]⟩
    ·subst hd
     rw [em_nil] at HE
     go_wp2_with fail
     refine (cI _).mono ?_
     rintro e w' ⟨rfl, rfl⟩
     cases hc : inRg f 0 1099511627776 <;> rw [hc] at HE
     ·go_wp2_with fail
      go_ret
      exact ⟨by rw [HE.out]; first | rfl | simp, HB.out _⟩
     ·go_wp2_with fail
      go_ret
      exact ⟨by rw [HE.out]; first | rfl | simp, HB.out _⟩
    ·obtain ⟨ed1, ed2, ed3, ed4⟩ := em_facts hd
     rw [ed4] at HE
     clear ed4 hd
     go_wp2_with fail
     refine (cI _).mono ?_
     rintro e w' ⟨rfl, rfl⟩
     cases hc : inRg f 0 1099511627776 <;> rw [hc] at HE
     ·go_wp2_with fail
      go_ret
      exact ⟨by rw [HE.out]; first | rfl | simp, HB.out _⟩
     ·go_wp2_with fail
      go_ret
      exact ⟨by rw [HE.out]; first | rfl | simp, HB.out _⟩
  ·obtain ⟨ek1, ek2, ek3, ek4⟩ := em_facts hk
   rw [ek4] at HE
   clear ek4 hk
   by_cases ht : t = 0
   ·subst ht
    rw [z_nil] at HE
    by_cases hd : d = ⟨#[]⟩
    ·subst hd
     rw [em_nil] at HE
     go_wp2_with fail
     refine (cI _).mono ?_
     rintro e w' ⟨rfl, rfl⟩
     cases hc : inRg f 0 1099511627776 <;> rw [hc] at HE
     ·go_wp2_with fail
      go_ret
      exact ⟨by rw [HE.out]; first | rfl | simp, HB.out _⟩
     ·go_wp2_with fail
      go_ret
      exact ⟨by rw [HE.out]; first | rfl | simp, HB.out _⟩
    ·obtain ⟨ed1, ed2, ed3, ed4⟩ := em_facts hd
     rw [ed4] at HE
     clear ed4 hd
     go_wp2_with fail
     refine (cI _).mono ?_
     rintro e w' ⟨rfl, rfl⟩
     cases hc : inRg f 0 1099511627776 <;> rw [hc] at HE
     ·go_wp2_with fail
      go_ret
      exact ⟨by rw [HE.out]; first | rfl | simp, HB.out _⟩
     ·go_wp2_with fail
      go_ret
      exact ⟨by rw [HE.out]; first | rfl | simp, HB.out _⟩
   ·obtain ⟨et1, et2, et4⟩ := z_facts ht
    rw [et4] at HE
    clear et4 ht
    by_cases hd : d = ⟨#[]⟩
    ·subst hd
     rw [em_nil] at HE
     go_wp2_with fail
     refine (cI _).mono ?_
     rintro e w' ⟨rfl, rfl⟩
     cases hc : inRg f 0 1099511627776 <;> rw [hc] at HE
     ·go_wp2_with fail
      go_ret
      exact ⟨by rw [HE.out]; first | rfl | simp, HB.out _⟩
     ·go_wp2_with fail
      go_ret
      exact ⟨by rw [HE.out]; first | rfl | simp, HB.out _⟩
    ·obtain ⟨ed1, ed2, ed3, ed4⟩ := em_facts hd
     rw [ed4] at HE
     clear ed4 hd
     go_wp2_with fail
     refine (cI _).mono ?_
     rintro e w' ⟨rfl, rfl⟩
     cases hc : inRg f 0 1099511627776 <;> rw [hc] at HE
     ·go_wp2_with fail
      go_ret
      exact ⟨by rw [HE.out]; first | rfl | simp, HB.out _⟩
     ·go_wp2_with fail
      go_ret
      exact ⟨by rw [HE.out]; first | rfl | simp, HB.out _⟩
set_option maxHeartbeats 8000000 in
theorem specOpOk_3 (k : ByteArray) (f t : Int) (d : ByteArray) (w : World) (hk : k.size ≤ maxLen) : Calls Tryz.prog 119 #[vOp ⟨3, k, f, t, d⟩] w fun e w' => e = .returned (.bool (opOk ⟨3, k, f, t, d⟩)) ∧ Below w.heap.size w w' := by
 have HE : Hid (opOk ⟨3, k, f, t, d⟩ = (inRg f 0 100000 && emB k && zB t && emB d)) := by unfold Hid opOk; simp
 have HB : Hid (∀ o, Below w.heap.size w ((w.alloc (.cells #[.int .i64 3, .string k, .int .i64 f, .int .i64 t, .string d] 38)).alloc o)) := fun o => ((below_a1 _ _).alloc (by simp) o)
 have cI := inS f 0 1099511627776
 have cH := inS f 0 100000
 have cK := fun wx => specKey k wx hk
 clear hk
 rw [show decide (KOk k) = keyB k from by unfold keyB; first | rfl | congr] at cK
 unfold vOp
 simp only
 go_enter Tryz.func119, Tryz.ntmps119
 go_upto_region 1 with fail
 go_cut [3] from 8 to 22 (fun s3 wc => s3 = .bool (spanB f t) ∧ wc = w.alloc (.cells #[.int .i64 3, .string k, .int .i64 f, .int .i64 t, .string d] 38))
 case first =>
  clear HE HB
  by_cases h1 : 0 ≤ f
  ·by_cases h2 : f < t
   ·by_cases h3 : t ≤ 1099511627776
    ·go_wp2_with fail
     go_meet
     exact ⟨by simp [spanB, *], rfl⟩
    ·have d3 : decide (t ≤ 1099511627776) = false := decide_eq_false h3
     go_wp2_with fail
     go_meet
     exact ⟨by simp [spanB, *], rfl⟩
   ·have d2 : decide (f < t) = false := decide_eq_false h2
    go_wp2_with fail
    go_meet
    exact ⟨by simp [spanB, *], rfl⟩
  ·have d1 : decide (0 ≤ f) = false := decide_eq_false h1
   go_wp2_with fail
   go_meet
   exact ⟨by simp [spanB, *], rfl⟩
 case rest =>
  obtain ⟨rfl, rfl⟩ := hcut
  by_cases hk : k = ⟨#[]⟩
  ·subst hk
   rw [em_nil] at HE
   by_cases ht : t = 0
   ·subst ht
    rw [z_nil] at HE
    by_cases hd : d = ⟨#[]⟩
    ·subst hd
     rw [em_nil] at HE
     go_wp2_with fail
     refine (cH _).mono ?_
     rintro e w' ⟨rfl, rfl⟩
     cases hc : inRg f 0 100000 <;> rw [hc] at HE
     ·go_wp2_with fail
      go_ret
      exact ⟨by rw [HE.out]; first | rfl | simp, HB.out _⟩
     ·go_wp2_with fail
      go_ret
      exact ⟨by rw [HE.out]; first | rfl | simp, HB.out _⟩
    ·obtain ⟨ed1, ed2, ed3, ed4⟩ := em_facts hd
     rw [ed4] at HE
     clear ed4 hd
     go_wp2_with fail
     refine (cH _).mono ?_
     rintro e w' ⟨rfl, rfl⟩
     cases hc : inRg f 0 100000 <;> rw [hc] at HE
     ·go_wp2_with fail
      go_ret
      exact ⟨by rw [HE.out]; first | rfl | simp, HB.out _⟩
     ·go_wp2_with fail
      go_ret
      exact ⟨by rw [HE.out]; first | rfl | simp, HB.out _⟩
   ·obtain ⟨et1, et2, et4⟩ := z_facts ht
    rw [et4] at HE
    clear et4 ht
    by_cases hd : d = ⟨#[]⟩
    ·subst hd
     rw [em_nil] at HE
     go_wp2_with fail
     refine (cH _).mono ?_
     rintro e w' ⟨rfl, rfl⟩
     cases hc : inRg f 0 100000 <;> rw [hc] at HE
     ·go_wp2_with fail
      go_ret
      exact ⟨by rw [HE.out]; first | rfl | simp, HB.out _⟩
     ·go_wp2_with fail
      go_ret
      exact ⟨by rw [HE.out]; first | rfl | simp, HB.out _⟩
    ·obtain ⟨ed1, ed2, ed3, ed4⟩ := em_facts hd
     rw [ed4] at HE
     clear ed4 hd
     go_wp2_with fail
     refine (cH _).mono ?_
     rintro e w' ⟨rfl, rfl⟩
     cases hc : inRg f 0 100000 <;> rw [hc] at HE
     ·go_wp2_with fail
      go_ret
      exact ⟨by rw [HE.out]; first | rfl | simp, HB.out _⟩
     ·go_wp2_with fail
      go_ret
      exact ⟨by rw [HE.out]; first | rfl | simp, HB.out _⟩
  ·obtain ⟨ek1, ek2, ek3, ek4⟩ := em_facts hk
   rw [ek4] at HE
   clear ek4 hk
   by_cases ht : t = 0
   ·subst ht
    rw [z_nil] at HE
    by_cases hd : d = ⟨#[]⟩
    ·subst hd
     rw [em_nil] at HE
     go_wp2_with fail
     refine (cH _).mono ?_
     rintro e w' ⟨rfl, rfl⟩
     cases hc : inRg f 0 100000 <;> rw [hc] at HE
     ·go_wp2_with fail
      go_ret
      exact ⟨by rw [HE.out]; first | rfl | simp, HB.out _⟩
     ·go_wp2_with fail
      go_ret
      exact ⟨by rw [HE.out]; first | rfl | simp, HB.out _⟩
    ·obtain ⟨ed1, ed2, ed3, ed4⟩ := em_facts hd
     rw [ed4] at HE
     clear ed4 hd
     go_wp2_with fail
     refine (cH _).mono ?_
     rintro e w' ⟨rfl, rfl⟩
     cases hc : inRg f 0 100000 <;> rw [hc] at HE
     ·go_wp2_with fail
      go_ret
      exact ⟨by rw [HE.out]; first | rfl | simp, HB.out _⟩
     ·go_wp2_with fail
      go_ret
      exact ⟨by rw [HE.out]; first | rfl | simp, HB.out _⟩
   ·obtain ⟨et1, et2, et4⟩ := z_facts ht
    rw [et4] at HE
    clear et4 ht
    by_cases hd : d = ⟨#[]⟩
    ·subst hd
     rw [em_nil] at HE
     go_wp2_with fail
     refine (cH _).mono ?_
     rintro e w' ⟨rfl, rfl⟩
     cases hc : inRg f 0 100000 <;> rw [hc] at HE
     ·go_wp2_with fail
      go_ret
      exact ⟨by rw [HE.out]; first | rfl | simp, HB.out _⟩
     ·go_wp2_with fail
      go_ret
      exact ⟨by rw [HE.out]; first | rfl | simp, HB.out _⟩
    ·obtain ⟨ed1, ed2, ed3, ed4⟩ := em_facts hd
     rw [ed4] at HE
     clear ed4 hd
     go_wp2_with fail
     refine (cH _).mono ?_
     rintro e w' ⟨rfl, rfl⟩
     cases hc : inRg f 0 100000 <;> rw [hc] at HE
     ·go_wp2_with fail
      go_ret
      exact ⟨by rw [HE.out]; first | rfl | simp, HB.out _⟩
     ·go_wp2_with fail
      go_ret
      exact ⟨by rw [HE.out]; first | rfl | simp, HB.out _⟩
set_option maxHeartbeats 8000000 in
theorem specOpOk_6 (k : ByteArray) (f t : Int) (d : ByteArray) (w : World) (hk : k.size ≤ maxLen) : Calls Tryz.prog 119 #[vOp ⟨6, k, f, t, d⟩] w fun e w' => e = .returned (.bool (opOk ⟨6, k, f, t, d⟩)) ∧ Below w.heap.size w w' := by
 have HE : Hid (opOk ⟨6, k, f, t, d⟩ = (inRg f 0 1099511627776 && emB k && zB t && emB d)) := by unfold Hid opOk; simp
 have HB : Hid (∀ o, Below w.heap.size w ((w.alloc (.cells #[.int .i64 6, .string k, .int .i64 f, .int .i64 t, .string d] 38)).alloc o)) := fun o => ((below_a1 _ _).alloc (by simp) o)
 have cI := inS f 0 1099511627776
 have cH := inS f 0 100000
 have cK := fun wx => specKey k wx hk
 clear hk
 rw [show decide (KOk k) = keyB k from by unfold keyB; first | rfl | congr] at cK
 unfold vOp
 simp only
 go_enter Tryz.func119, Tryz.ntmps119
 go_upto_region 1 with fail
 go_cut [3] from 8 to 22 (fun s3 wc => s3 = .bool (spanB f t) ∧ wc = w.alloc (.cells #[.int .i64 6, .string k, .int .i64 f, .int .i64 t, .string d] 38))
 case first =>
  clear HE HB
  by_cases h1 : 0 ≤ f
  ·by_cases h2 : f < t
   ·by_cases h3 : t ≤ 1099511627776
    ·go_wp2_with fail
     go_meet
     exact ⟨by simp [spanB, *], rfl⟩
    ·have d3 : decide (t ≤ 1099511627776) = false := decide_eq_false h3
     go_wp2_with fail
     go_meet
     exact ⟨by simp [spanB, *], rfl⟩
   ·have d2 : decide (f < t) = false := decide_eq_false h2
    go_wp2_with fail
    go_meet
    exact ⟨by simp [spanB, *], rfl⟩
  ·have d1 : decide (0 ≤ f) = false := decide_eq_false h1
   go_wp2_with fail
   go_meet
   exact ⟨by simp [spanB, *], rfl⟩
 case rest =>
  obtain ⟨rfl, rfl⟩ := hcut
  by_cases hk : k = ⟨#[]⟩
  ·subst hk
   rw [em_nil] at HE
   by_cases ht : t = 0
   ·subst ht
    rw [z_nil] at HE
    by_cases hd : d = ⟨#[]⟩
    ·subst hd
     rw [em_nil] at HE
     go_wp2_with fail
     refine (cI _).mono ?_
     rintro e w' ⟨rfl, rfl⟩
     cases hc : inRg f 0 1099511627776 <;> rw [hc] at HE
     ·go_wp2_with fail
      go_ret
      exact ⟨by rw [HE.out]; first | rfl | simp, HB.out _⟩
     ·go_wp2_with fail
      go_ret
      exact ⟨by rw [HE.out]; first | rfl | simp, HB.out _⟩
    ·obtain ⟨ed1, ed2, ed3, ed4⟩ := em_facts hd
     rw [ed4] at HE
     clear ed4 hd
     go_wp2_with fail
     refine (cI _).mono ?_
     rintro e w' ⟨rfl, rfl⟩
     cases hc : inRg f 0 1099511627776 <;> rw [hc] at HE
     ·go_wp2_with fail
      go_ret
      exact ⟨by rw [HE.out]; first | rfl | simp, HB.out _⟩
     ·go_wp2_with fail
      go_ret
      exact ⟨by rw [HE.out]; first | rfl | simp, HB.out _⟩
   ·obtain ⟨et1, et2, et4⟩ := z_facts ht
    rw [et4] at HE
    clear et4 ht
    by_cases hd : d = ⟨#[]⟩
    ·subst hd
     rw [em_nil] at HE
     go_wp2_with fail
     refine (cI _).mono ?_
     rintro e w' ⟨rfl, rfl⟩
     cases hc : inRg f 0 1099511627776 <;> rw [hc] at HE
     ·go_wp2_with fail
      go_ret
      exact ⟨by rw [HE.out]; first | rfl | simp, HB.out _⟩
     ·go_wp2_with fail
      go_ret
      exact ⟨by rw [HE.out]; first | rfl | simp, HB.out _⟩
    ·obtain ⟨ed1, ed2, ed3, ed4⟩ := em_facts hd
     rw [ed4] at HE
     clear ed4 hd
     go_wp2_with fail
     refine (cI _).mono ?_
     rintro e w' ⟨rfl, rfl⟩
     cases hc : inRg f 0 1099511627776 <;> rw [hc] at HE
     ·go_wp2_with fail
      go_ret
      exact ⟨by rw [HE.out]; first | rfl | simp, HB.out _⟩
     ·go_wp2_with fail
      go_ret
      exact ⟨by rw [HE.out]; first | rfl | simp, HB.out _⟩
  ·obtain ⟨ek1, ek2, ek3, ek4⟩ := em_facts hk
   rw [ek4] at HE
   clear ek4 hk
   by_cases ht : t = 0
   ·subst ht
    rw [z_nil] at HE
    by_cases hd : d = ⟨#[]⟩
    ·subst hd
     rw [em_nil] at HE
     go_wp2_with fail
     refine (cI _).mono ?_
     rintro e w' ⟨rfl, rfl⟩
     cases hc : inRg f 0 1099511627776 <;> rw [hc] at HE
     ·go_wp2_with fail
      go_ret
      exact ⟨by rw [HE.out]; first | rfl | simp, HB.out _⟩
     ·go_wp2_with fail
      go_ret
      exact ⟨by rw [HE.out]; first | rfl | simp, HB.out _⟩
    ·obtain ⟨ed1, ed2, ed3, ed4⟩ := em_facts hd
     rw [ed4] at HE
     clear ed4 hd
     go_wp2_with fail
     refine (cI _).mono ?_
     rintro e w' ⟨rfl, rfl⟩
     cases hc : inRg f 0 1099511627776 <;> rw [hc] at HE
     ·go_wp2_with fail
      go_ret
      exact ⟨by rw [HE.out]; first | rfl | simp, HB.out _⟩
     ·go_wp2_with fail
      go_ret
      exact ⟨by rw [HE.out]; first | rfl | simp, HB.out _⟩
   ·obtain ⟨et1, et2, et4⟩ := z_facts ht
    rw [et4] at HE
    clear et4 ht
    by_cases hd : d = ⟨#[]⟩
    ·subst hd
     rw [em_nil] at HE
     go_wp2_with fail
     refine (cI _).mono ?_
     rintro e w' ⟨rfl, rfl⟩
     cases hc : inRg f 0 1099511627776 <;> rw [hc] at HE
     ·go_wp2_with fail
      go_ret
      exact ⟨by rw [HE.out]; first | rfl | simp, HB.out _⟩
     ·go_wp2_with fail
      go_ret
      exact ⟨by rw [HE.out]; first | rfl | simp, HB.out _⟩
    ·obtain ⟨ed1, ed2, ed3, ed4⟩ := em_facts hd
     rw [ed4] at HE
     clear ed4 hd
     go_wp2_with fail
     refine (cI _).mono ?_
     rintro e w' ⟨rfl, rfl⟩
     cases hc : inRg f 0 1099511627776 <;> rw [hc] at HE
     ·go_wp2_with fail
      go_ret
      exact ⟨by rw [HE.out]; first | rfl | simp, HB.out _⟩
     ·go_wp2_with fail
      go_ret
      exact ⟨by rw [HE.out]; first | rfl | simp, HB.out _⟩
set_option maxHeartbeats 8000000 in
theorem specOpOk_7 (k : ByteArray) (f t : Int) (d : ByteArray) (w : World) (hk : k.size ≤ maxLen) : Calls Tryz.prog 119 #[vOp ⟨7, k, f, t, d⟩] w fun e w' => e = .returned (.bool (opOk ⟨7, k, f, t, d⟩)) ∧ Below w.heap.size w w' := by
 have HE : Hid (opOk ⟨7, k, f, t, d⟩ = (emB k && zB f && zB t && emB d)) := by unfold Hid opOk; simp
 have HB : Hid (∀ o, Below w.heap.size w ((w.alloc (.cells #[.int .i64 7, .string k, .int .i64 f, .int .i64 t, .string d] 38)).alloc o)) := fun o => ((below_a1 _ _).alloc (by simp) o)
 have cI := inS f 0 1099511627776
 have cH := inS f 0 100000
 have cK := fun wx => specKey k wx hk
 clear hk
 rw [show decide (KOk k) = keyB k from by unfold keyB; first | rfl | congr] at cK
 unfold vOp
 simp only
 go_enter Tryz.func119, Tryz.ntmps119
 go_upto_region 1 with fail
 go_cut [3] from 8 to 22 (fun s3 wc => s3 = .bool (spanB f t) ∧ wc = w.alloc (.cells #[.int .i64 7, .string k, .int .i64 f, .int .i64 t, .string d] 38))
 case first =>
  clear HE HB
  by_cases h1 : 0 ≤ f
  ·by_cases h2 : f < t
   ·by_cases h3 : t ≤ 1099511627776
    ·go_wp2_with fail
     go_meet
     exact ⟨by simp [spanB, *], rfl⟩
    ·have d3 : decide (t ≤ 1099511627776) = false := decide_eq_false h3
     go_wp2_with fail
     go_meet
     exact ⟨by simp [spanB, *], rfl⟩
   ·have d2 : decide (f < t) = false := decide_eq_false h2
    go_wp2_with fail
    go_meet
    exact ⟨by simp [spanB, *], rfl⟩
  ·have d1 : decide (0 ≤ f) = false := decide_eq_false h1
   go_wp2_with fail
   go_meet
   exact ⟨by simp [spanB, *], rfl⟩
 case rest =>
  obtain ⟨rfl, rfl⟩ := hcut
  by_cases hk : k = ⟨#[]⟩
  ·subst hk
   rw [em_nil] at HE
   by_cases hf : f = 0
   ·subst hf
    rw [z_nil] at HE
    by_cases ht : t = 0
    ·subst ht
     rw [z_nil] at HE
     by_cases hd : d = ⟨#[]⟩
     ·subst hd
      rw [em_nil] at HE
      go_wp2_with fail
      go_ret
      exact ⟨by rw [HE.out]; first | rfl | simp, HB.out _⟩
     ·obtain ⟨ed1, ed2, ed3, ed4⟩ := em_facts hd
      rw [ed4] at HE
      clear ed4 hd
      go_wp2_with fail
      go_ret
      exact ⟨by rw [HE.out]; first | rfl | simp, HB.out _⟩
    ·obtain ⟨et1, et2, et4⟩ := z_facts ht
     rw [et4] at HE
     clear et4 ht
     by_cases hd : d = ⟨#[]⟩
     ·subst hd
      rw [em_nil] at HE
      go_wp2_with fail
      go_ret
      exact ⟨by rw [HE.out]; first | rfl | simp, HB.out _⟩
     ·obtain ⟨ed1, ed2, ed3, ed4⟩ := em_facts hd
      rw [ed4] at HE
      clear ed4 hd
      go_wp2_with fail
      go_ret
      exact ⟨by rw [HE.out]; first | rfl | simp, HB.out _⟩
   ·obtain ⟨ef1, ef2, ef4⟩ := z_facts hf
    rw [ef4] at HE
    clear ef4 hf
    by_cases ht : t = 0
    ·subst ht
     rw [z_nil] at HE
     by_cases hd : d = ⟨#[]⟩
     ·subst hd
      rw [em_nil] at HE
      go_wp2_with fail
      go_ret
      exact ⟨by rw [HE.out]; first | rfl | simp, HB.out _⟩
     ·obtain ⟨ed1, ed2, ed3, ed4⟩ := em_facts hd
      rw [ed4] at HE
      clear ed4 hd
      go_wp2_with fail
      go_ret
      exact ⟨by rw [HE.out]; first | rfl | simp, HB.out _⟩
    ·obtain ⟨et1, et2, et4⟩ := z_facts ht
     rw [et4] at HE
     clear et4 ht
     by_cases hd : d = ⟨#[]⟩
     ·subst hd
      rw [em_nil] at HE
      go_wp2_with fail
      go_ret
      exact ⟨by rw [HE.out]; first | rfl | simp, HB.out _⟩
     ·obtain ⟨ed1, ed2, ed3, ed4⟩ := em_facts hd
      rw [ed4] at HE
      clear ed4 hd
      go_wp2_with fail
      go_ret
      exact ⟨by rw [HE.out]; first | rfl | simp, HB.out _⟩
  ·obtain ⟨ek1, ek2, ek3, ek4⟩ := em_facts hk
   rw [ek4] at HE
   clear ek4 hk
   by_cases hf : f = 0
   ·subst hf
    rw [z_nil] at HE
    by_cases ht : t = 0
    ·subst ht
     rw [z_nil] at HE
     by_cases hd : d = ⟨#[]⟩
     ·subst hd
      rw [em_nil] at HE
      go_wp2_with fail
      go_ret
      exact ⟨by rw [HE.out]; first | rfl | simp, HB.out _⟩
     ·obtain ⟨ed1, ed2, ed3, ed4⟩ := em_facts hd
      rw [ed4] at HE
      clear ed4 hd
      go_wp2_with fail
      go_ret
      exact ⟨by rw [HE.out]; first | rfl | simp, HB.out _⟩
    ·obtain ⟨et1, et2, et4⟩ := z_facts ht
     rw [et4] at HE
     clear et4 ht
     by_cases hd : d = ⟨#[]⟩
     ·subst hd
      rw [em_nil] at HE
      go_wp2_with fail
      go_ret
      exact ⟨by rw [HE.out]; first | rfl | simp, HB.out _⟩
     ·obtain ⟨ed1, ed2, ed3, ed4⟩ := em_facts hd
      rw [ed4] at HE
      clear ed4 hd
      go_wp2_with fail
      go_ret
      exact ⟨by rw [HE.out]; first | rfl | simp, HB.out _⟩
   ·obtain ⟨ef1, ef2, ef4⟩ := z_facts hf
    rw [ef4] at HE
    clear ef4 hf
    by_cases ht : t = 0
    ·subst ht
     rw [z_nil] at HE
     by_cases hd : d = ⟨#[]⟩
     ·subst hd
      rw [em_nil] at HE
      go_wp2_with fail
      go_ret
      exact ⟨by rw [HE.out]; first | rfl | simp, HB.out _⟩
     ·obtain ⟨ed1, ed2, ed3, ed4⟩ := em_facts hd
      rw [ed4] at HE
      clear ed4 hd
      go_wp2_with fail
      go_ret
      exact ⟨by rw [HE.out]; first | rfl | simp, HB.out _⟩
    ·obtain ⟨et1, et2, et4⟩ := z_facts ht
     rw [et4] at HE
     clear et4 ht
     by_cases hd : d = ⟨#[]⟩
     ·subst hd
      rw [em_nil] at HE
      go_wp2_with fail
      go_ret
      exact ⟨by rw [HE.out]; first | rfl | simp, HB.out _⟩
     ·obtain ⟨ed1, ed2, ed3, ed4⟩ := em_facts hd
      rw [ed4] at HE
      clear ed4 hd
      go_wp2_with fail
      go_ret
      exact ⟨by rw [HE.out]; first | rfl | simp, HB.out _⟩
set_option maxHeartbeats 8000000 in
theorem specOpOk_5 (k : ByteArray) (f t : Int) (d : ByteArray) (w : World) (hk : k.size ≤ maxLen) : Calls Tryz.prog 119 #[vOp ⟨5, k, f, t, d⟩] w fun e w' => e = .returned (.bool (opOk ⟨5, k, f, t, d⟩)) ∧ Below w.heap.size w w' := by
 have HE : Hid (opOk ⟨5, k, f, t, d⟩ = (keyB k && spanB f t && emB d)) := by unfold Hid opOk; simp
 have HB : Hid (∀ o, Below w.heap.size w ((w.alloc (.cells #[.int .i64 5, .string k, .int .i64 f, .int .i64 t, .string d] 38)).alloc o)) := fun o => ((below_a1 _ _).alloc (by simp) o)
 have cI := inS f 0 1099511627776
 have cH := inS f 0 100000
 have cK := fun wx => specKey k wx hk
 clear hk
 rw [show decide (KOk k) = keyB k from by unfold keyB; first | rfl | congr] at cK
 unfold vOp
 simp only
 go_enter Tryz.func119, Tryz.ntmps119
 go_upto_region 1 with fail
 go_cut [3] from 8 to 22 (fun s3 wc => s3 = .bool (spanB f t) ∧ wc = w.alloc (.cells #[.int .i64 5, .string k, .int .i64 f, .int .i64 t, .string d] 38))
 case first =>
  clear HE HB
  by_cases h1 : 0 ≤ f
  ·by_cases h2 : f < t
   ·by_cases h3 : t ≤ 1099511627776
    ·go_wp2_with fail
     go_meet
     exact ⟨by simp [spanB, *], rfl⟩
    ·have d3 : decide (t ≤ 1099511627776) = false := decide_eq_false h3
     go_wp2_with fail
     go_meet
     exact ⟨by simp [spanB, *], rfl⟩
   ·have d2 : decide (f < t) = false := decide_eq_false h2
    go_wp2_with fail
    go_meet
    exact ⟨by simp [spanB, *], rfl⟩
  ·have d1 : decide (0 ≤ f) = false := decide_eq_false h1
   go_wp2_with fail
   go_meet
   exact ⟨by simp [spanB, *], rfl⟩
 case rest =>
  obtain ⟨rfl, rfl⟩ := hcut
  by_cases hd : d = ⟨#[]⟩
  ·subst hd
   rw [em_nil] at HE
   cases hs : spanB f t <;> rw [hs] at HE <;> cases hc : keyB k <;> rw [hc] at HE cK
   ·go_wp2_with fail
    refine (cK _).mono ?_
    rintro e w' ⟨rfl, rfl⟩
    go_wp2_with fail
    go_ret
    exact ⟨by rw [HE.out]; first | rfl | simp, HB.out _⟩
   ·go_wp2_with fail
    refine (cK _).mono ?_
    rintro e w' ⟨rfl, rfl⟩
    go_wp2_with fail
    go_ret
    exact ⟨by rw [HE.out]; first | rfl | simp, HB.out _⟩
   ·go_wp2_with fail
    refine (cK _).mono ?_
    rintro e w' ⟨rfl, rfl⟩
    go_wp2_with fail
    go_ret
    exact ⟨by rw [HE.out]; first | rfl | simp, HB.out _⟩
   ·go_wp2_with fail
    refine (cK _).mono ?_
    rintro e w' ⟨rfl, rfl⟩
    go_wp2_with fail
    go_ret
    exact ⟨by rw [HE.out]; first | rfl | simp, HB.out _⟩
  ·obtain ⟨ed1, ed2, ed3, ed4⟩ := em_facts hd
   rw [ed4] at HE
   clear ed4 hd
   cases hs : spanB f t <;> rw [hs] at HE <;> cases hc : keyB k <;> rw [hc] at HE cK
   ·go_wp2_with fail
    refine (cK _).mono ?_
    rintro e w' ⟨rfl, rfl⟩
    go_wp2_with fail
    go_ret
    exact ⟨by rw [HE.out]; first | rfl | simp, HB.out _⟩
   ·go_wp2_with fail
    refine (cK _).mono ?_
    rintro e w' ⟨rfl, rfl⟩
    go_wp2_with fail
    go_ret
    exact ⟨by rw [HE.out]; first | rfl | simp, HB.out _⟩
   ·go_wp2_with fail
    refine (cK _).mono ?_
    rintro e w' ⟨rfl, rfl⟩
    go_wp2_with fail
    go_ret
    exact ⟨by rw [HE.out]; first | rfl | simp, HB.out _⟩
   ·go_wp2_with fail
    refine (cK _).mono ?_
    rintro e w' ⟨rfl, rfl⟩
    go_wp2_with fail
    go_ret
    exact ⟨by rw [HE.out]; first | rfl | simp, HB.out _⟩
set_option maxHeartbeats 8000000 in
theorem specOpOk_4 (k : ByteArray) (f t : Int) (d : ByteArray) (w : World) (hk : k.size ≤ maxLen) (hd : d.size ≤ 1048576) : Calls Tryz.prog 119 #[vOp ⟨4, k, f, t, d⟩] w fun e w' => e = .returned (.bool (opOk ⟨4, k, f, t, d⟩)) ∧ Below w.heap.size w w' := by
 have HE : Hid (opOk ⟨4, k, f, t, d⟩ = (keyB k && rdB d && zB f && zB t)) := by unfold Hid opOk; simp
 have HB : Hid True := trivial
 obtain ⟨X, hX⟩ : ∃ X, X = (w.alloc (.cells #[.int .i64 4, .string k, .int .i64 f, .int .i64 t, .string d] 38)).alloc (.cells #[.int .i64 4, .string k, .int .i64 0, .int .i64 0, .string d] 38) := ⟨_, rfl⟩
 have HBX : Hid (Below w.heap.size w X) := by rw [hX]; exact (below_a1 _ _).alloc (by simp) _
 have hY := CellO.new w ⟨4, k, f, t, d⟩ 38
 have KX : Hid (CellO X w.heap.size ⟨4, k, f, t, d⟩) := by rw [hX]; exact hY.on (below_a1 _ _) hY.2
 have KZ : Hid (CellO X (w.heap.size + 1) ⟨4, k, 0, 0, d⟩) := by
  have h := CellO.new (w.alloc (.cells #[.int .i64 4, .string k, .int .i64 f, .int .i64 t, .string d] 38)) ⟨4, k, 0, 0, d⟩ 38
  unfold Hid
  rw [hX]
  simpa using h
 clear hY
 have cR := specReadBlock d X hd
 have cK := fun wx => specKey k wx hk
 clear hk hd
 rw [show decide (KOk k) = keyB k from by unfold keyB; first | rfl | congr] at cK
 unfold vOp
 simp only
 go_enter Tryz.func119, Tryz.ntmps119
 go_upto_region 1 with fail
 go_cut [3] from 8 to 22 (fun s3 wc => s3 = .bool (spanB f t) ∧ wc = w.alloc (.cells #[.int .i64 4, .string k, .int .i64 f, .int .i64 t, .string d] 38))
 case first =>
  clear HE HB
  by_cases h1 : 0 ≤ f
  ·by_cases h2 : f < t
   ·by_cases h3 : t ≤ 1099511627776
    ·go_wp2_with fail
     go_meet
     exact ⟨by simp [spanB, *], rfl⟩
    ·have d3 : decide (t ≤ 1099511627776) = false := decide_eq_false h3
     go_wp2_with fail
     go_meet
     exact ⟨by simp [spanB, *], rfl⟩
   ·have d2 : decide (f < t) = false := decide_eq_false h2
    go_wp2_with fail
    go_meet
    exact ⟨by simp [spanB, *], rfl⟩
  ·have d1 : decide (0 ≤ f) = false := decide_eq_false h1
   go_wp2_with fail
   go_meet
   exact ⟨by simp [spanB, *], rfl⟩
 case rest =>
  obtain ⟨rfl, rfl⟩ := hcut
  go_wp2_with fail
  rw [← hX]
  clear hX
  refine cR.mono ?_
  rintro e w1 ⟨⟨u, l, ok, hA, rfl, hO⟩, hb⟩
  have hr := rdB_is hA
  rw [hr] at HE
  have HB : Hid (Below w.heap.size w w1) := HBX.out.trans (hb.mono HBX.out.size)
  obtain ⟨⟨g0, g1, g2, g3, g4⟩, _⟩ := KX.out.on hb KX.out.2
  obtain ⟨⟨y0, y1, y2, y3, y4⟩, _⟩ := KZ.out.on hb KZ.out.2
  simp only at g0 g1 g2 g3 g4 y0 y1 y2 y3 y4
  obtain ⟨Au, mu, cu, rfl⟩ := hO.shape
  clear hA hO hb hr cR KX KZ
  by_cases hf : f = 0
  ·subst hf
   rw [z_nil] at HE
   by_cases ht : t = 0
   ·subst ht
    rw [z_nil] at HE
    cases ok <;> cases hc : keyB k <;> rw [hc] at HE cK
    ·go_wp2_with fail
     refine (cK _).mono ?_
     rintro e w' ⟨rfl, rfl⟩
     go_wp2_with fail
     go_ret
     exact ⟨by rw [HE.out]; first | rfl | simp, HB.out⟩
    ·go_wp2_with fail
     refine (cK _).mono ?_
     rintro e w' ⟨rfl, rfl⟩
     go_wp2_with fail
     go_ret
     exact ⟨by rw [HE.out]; first | rfl | simp, HB.out⟩
    ·go_wp2_with fail
     refine (cK _).mono ?_
     rintro e w' ⟨rfl, rfl⟩
     go_wp2_with fail
     go_ret
     exact ⟨by rw [HE.out]; first | rfl | simp, HB.out⟩
    ·go_wp2_with fail
     refine (cK _).mono ?_
     rintro e w' ⟨rfl, rfl⟩
     go_wp2_with fail
     go_ret
     exact ⟨by rw [HE.out]; first | rfl | simp, HB.out⟩
   ·obtain ⟨et1, et2, et4⟩ := z_facts ht
    rw [et4] at HE
    clear et4 ht
    cases ok <;> cases hc : keyB k <;> rw [hc] at HE cK
    ·go_wp2_with fail
     refine (cK _).mono ?_
     rintro e w' ⟨rfl, rfl⟩
     go_wp2_with fail
     go_ret
     exact ⟨by rw [HE.out]; first | rfl | simp, HB.out⟩
    ·go_wp2_with fail
     refine (cK _).mono ?_
     rintro e w' ⟨rfl, rfl⟩
     go_wp2_with fail
     go_ret
     exact ⟨by rw [HE.out]; first | rfl | simp, HB.out⟩
    ·go_wp2_with fail
     refine (cK _).mono ?_
     rintro e w' ⟨rfl, rfl⟩
     go_wp2_with fail
     go_ret
     exact ⟨by rw [HE.out]; first | rfl | simp, HB.out⟩
    ·go_wp2_with fail
     refine (cK _).mono ?_
     rintro e w' ⟨rfl, rfl⟩
     go_wp2_with fail
     go_ret
     exact ⟨by rw [HE.out]; first | rfl | simp, HB.out⟩
  ·obtain ⟨ef1, ef2, ef4⟩ := z_facts hf
   rw [ef4] at HE
   clear ef4 hf
   by_cases ht : t = 0
   ·subst ht
    rw [z_nil] at HE
    cases ok <;> cases hc : keyB k <;> rw [hc] at HE cK
    ·go_wp2_with fail
     refine (cK _).mono ?_
     rintro e w' ⟨rfl, rfl⟩
     go_wp2_with fail
     go_ret
     exact ⟨by rw [HE.out]; first | rfl | simp, HB.out⟩
    ·go_wp2_with fail
     refine (cK _).mono ?_
     rintro e w' ⟨rfl, rfl⟩
     go_wp2_with fail
     go_ret
     exact ⟨by rw [HE.out]; first | rfl | simp, HB.out⟩
    ·go_wp2_with fail
     refine (cK _).mono ?_
     rintro e w' ⟨rfl, rfl⟩
     go_wp2_with fail
     go_ret
     exact ⟨by rw [HE.out]; first | rfl | simp, HB.out⟩
    ·go_wp2_with fail
     refine (cK _).mono ?_
     rintro e w' ⟨rfl, rfl⟩
     go_wp2_with fail
     go_ret
     exact ⟨by rw [HE.out]; first | rfl | simp, HB.out⟩
   ·obtain ⟨et1, et2, et4⟩ := z_facts ht
    rw [et4] at HE
    clear et4 ht
    cases ok <;> cases hc : keyB k <;> rw [hc] at HE cK
    ·go_wp2_with fail
     refine (cK _).mono ?_
     rintro e w' ⟨rfl, rfl⟩
     go_wp2_with fail
     go_ret
     exact ⟨by rw [HE.out]; first | rfl | simp, HB.out⟩
    ·go_wp2_with fail
     refine (cK _).mono ?_
     rintro e w' ⟨rfl, rfl⟩
     go_wp2_with fail
     go_ret
     exact ⟨by rw [HE.out]; first | rfl | simp, HB.out⟩
    ·go_wp2_with fail
     refine (cK _).mono ?_
     rintro e w' ⟨rfl, rfl⟩
     go_wp2_with fail
     go_ret
     exact ⟨by rw [HE.out]; first | rfl | simp, HB.out⟩
    ·go_wp2_with fail
     refine (cK _).mono ?_
     rintro e w' ⟨rfl, rfl⟩
     go_wp2_with fail
     go_ret
     exact ⟨by rw [HE.out]; first | rfl | simp, HB.out⟩
set_option maxHeartbeats 8000000 in
theorem specOpOk_no (x : Opx) (w : World) (h : x.kind ≠ 1 ∧ x.kind ≠ 2 ∧ x.kind ≠ 3 ∧ x.kind ≠ 4 ∧ x.kind ≠ 5 ∧ x.kind ≠ 6 ∧ x.kind ≠ 7) : Calls Tryz.prog 119 #[vOp x] w fun e w' => e = .returned (.bool (opOk x)) ∧ Below w.heap.size w w' := by
 obtain ⟨n, k, f, t, d⟩ := x
 simp only at h
 obtain ⟨h1, h2, h3, h4, h5, h6, h7⟩ := h
 have HE : Hid (opOk ⟨n, k, f, t, d⟩ = false) := by unfold Hid opOk; simp [h1, h2, h3, h4, h5, h6, h7]
 have HB : Hid (∀ o, Below w.heap.size w ((w.alloc (.cells #[.int .i64 n, .string k, .int .i64 f, .int .i64 t, .string d] 38)).alloc o)) := fun o => ((below_a1 _ _).alloc (by simp) o)
 have z1 : (n == 1) = false := by simpa using h1
 have z2 : (n == 2) = false := by simpa using h2
 have z3 : (n == 3) = false := by simpa using h3
 have z4 : (n == 4) = false := by simpa using h4
 have z5 : (n == 5) = false := by simpa using h5
 have z6 : (n == 6) = false := by simpa using h6
 have z7 : (n == 7) = false := by simpa using h7
 clear h1 h2 h3 h4 h5 h6 h7
 unfold vOp
 simp only
 go_enter Tryz.func119, Tryz.ntmps119
 go_upto_region 1 with fail
 go_cut [3] from 8 to 22 (fun s3 wc => s3 = .bool (spanB f t) ∧ wc = w.alloc (.cells #[.int .i64 n, .string k, .int .i64 f, .int .i64 t, .string d] 38))
 case first =>
  clear HE HB
  by_cases h1 : 0 ≤ f
  ·by_cases h2 : f < t
   ·by_cases h3 : t ≤ 1099511627776
    ·go_wp2_with fail
     go_meet
     exact ⟨by simp [spanB, *], rfl⟩
    ·have d3 : decide (t ≤ 1099511627776) = false := decide_eq_false h3
     go_wp2_with fail
     go_meet
     exact ⟨by simp [spanB, *], rfl⟩
   ·have d2 : decide (f < t) = false := decide_eq_false h2
    go_wp2_with fail
    go_meet
    exact ⟨by simp [spanB, *], rfl⟩
  ·have d1 : decide (0 ≤ f) = false := decide_eq_false h1
   go_wp2_with fail
   go_meet
   exact ⟨by simp [spanB, *], rfl⟩
 case rest =>
  obtain ⟨rfl, rfl⟩ := hcut
  go_wp2_with fail
  go_ret
  exact ⟨by rw [HE.out]; first | rfl | simp, HB.out _⟩
theorem specOpOk (x : Opx) (w : World) (hk : x.key.size ≤ maxLen) (hd : x.data.size ≤ 1048576) : Calls Tryz.prog 119 #[vOp x] w fun e w' => e = .returned (.bool (opOk x)) ∧ Below w.heap.size w w' := by
 by_cases h : x.kind ≠ 1 ∧ x.kind ≠ 2 ∧ x.kind ≠ 3 ∧ x.kind ≠ 4 ∧ x.kind ≠ 5 ∧ x.kind ≠ 6 ∧ x.kind ≠ 7
 ·exact specOpOk_no x w h
 ·obtain ⟨n, k, f, t, d⟩ := x
  simp only at h hk hd
  have : n = 1 ∨ n = 2 ∨ n = 3 ∨ n = 4 ∨ n = 5 ∨ n = 6 ∨ n = 7 := by omega
  rcases this with rfl | rfl | rfl | rfl | rfl | rfl | rfl
  ·exact specOpOk_1 k f t d w hk
  ·exact specOpOk_2 k f t d w hk
  ·exact specOpOk_3 k f t d w hk
  ·exact specOpOk_4 k f t d w hk hd
  ·exact specOpOk_5 k f t d w hk
  ·exact specOpOk_6 k f t d w hk
  ·exact specOpOk_7 k f t d w hk
end Go.Proofs.YtifmjdakefkbiaaGreatDoor
namespace Go.Proofs.YtifmjdakefkbiaaGreatDoor
open Go.ChangeShapes Go.WideShapes Go.ChangeAt Go.RowKit Go.PlainAid
set_option linter.unusedVariables false
theorem conv_oneC (kn g cap : Nat) (w : World) (h : w.cell? ⟨g, 0, none⟩ = some (.int .u8 (kn : Int))) (hk : kn < 256) : (convert 22 9 (.slice (some ⟨g, 0, none⟩) 1 cap)).run Tryz.prog w = .ok (.string (txt [byt kn])) w := by
 refine run_convert_bytes_back (P := Tryz.prog) w 22 9 5 ⟨g, 0, none⟩ cap [byt kn] Tryz.underlying22 Tryz.underlying5 Tryz.underlying9 ?_
 intro j hj
 obtain rfl : j = 0 := by simp at hj; omega
 show w.cell? ⟨g, 0, none⟩ = _
 rw [h]
 have : (byt kn).toNat = kn := by rw [byt_toNat]; omega
 simp [this]
theorem byt_oneC (n : Nat) (h : n < 256) : IntKind.u8.wrap (n : Int) = (n : Int) := by rw [IntKind.wrap_u8']; omega
set_option maxHeartbeats 4000000 in
theorem specShowOp (x : Opx) (w : World) (hk : x.key.size ≤ maxLen) (hd : x.data.size ≤ 1048576) : Calls Tryz.prog 85 #[vOp x] w fun e w' => e = .returned (.string (opT x)) ∧ Below w.heap.size w w' := by
 have c0 := fun wx => specOpOk x wx hk hd
 have hb0 := below_c1 w (.cells #[.int .i64 x.kind, .string x.key, .int .i64 x.frm, .int .i64 x.til, .string x.data] 38)
 have k0 := Blk.new w #[.int .i64 x.kind, .string x.key, .int .i64 x.frm, .int .i64 x.til, .string x.data] 38
 clear hk
 cases ho : opOk x
 ·have HE : Hid (opT x = ⟨#[]⟩) := by unfold Hid opT; rw [ho]; rfl
  rw [ho] at c0
  unfold vOp at *
  clear ho hd k0
  go_enter Tryz.func85, Tryz.ntmps85
  go_wp2_with fail
  generalize w.alloc (.cells #[.int .i64 x.kind, .string x.key, .int .i64 x.frm, .int .i64 x.til, .string x.data] 38) = W at *
  refine (c0 _).mono ?_
  rintro e w1 ⟨rfl, hb1⟩
  have B1 : Hid (Below w.heap.size w w1) := hb0.trans (hb1.mono hb0.size)
  clear hb0 hb1 c0
  go_wp2_with fail
  go_ret
  exact ⟨by rw [HE.out]; rfl, B1.out⟩
 obtain ⟨⟨a1, a2⟩, a3, ⟨a4, a5⟩, ⟨a6, a7⟩⟩ := opOk_in ho
 have HE : Hid (opT x = txt [byt x.kind.toNat] ++ txt (vF 6 x.key.size) ++ x.key ++ txt (vF 6 x.frm.toNat) ++ txt (vF 6 x.til.toNat) ++ x.data) := by unfold Hid opT; rw [if_pos ho]
 rw [ho] at c0
 clear ho
 obtain ⟨k, key, f, t, d⟩ := x
 simp only at *
 obtain ⟨kn, rfl⟩ : ∃ n : Nat, k = (n : Int) := ⟨k.toNat, by omega⟩
 obtain ⟨fn, rfl⟩ : ∃ n : Nat, f = (n : Int) := ⟨f.toNat, by omega⟩
 obtain ⟨tn, rfl⟩ : ∃ n : Nat, t = (n : Int) := ⟨t.toNat, by omega⟩
 simp only [Int.toNat_natCast] at HE
 have hu8 := byt_oneC kn (by omega)
 have hmod : (kn : Int) % 256 = (kn : Int) := by omega
 have hknI : (kn : Int) < 256 := by omega
 have cC : ∀ g wx, wx.cell? ⟨g, 0, none⟩ = some (.int .u8 (kn : Int)) → (convert 22 9 (.slice (some ⟨g, 0, none⟩) 1 1)).run Tryz.prog wx = .ok (.string (txt [byt kn])) wx := fun g wx h => conv_oneC kn g 1 wx h (by omega)
 have cN := fun wx => spec_var key.size wx (by omega)
 have cA := fun wx => spec_var fn wx (by omega)
 have cB := fun wx => spec_var tn wx (by omega)
 have l0 : (txt [byt kn]).size = 1 := by rw [txt_size]; rfl
 have l1 : (txt (vF 6 key.size)).size ≤ 7 := by rw [txt_size]; exact vF_length 6 _
 have l2 : (txt (vF 6 fn)).size ≤ 7 := by rw [txt_size]; exact vF_length 6 fn
 have l3 : (txt (vF 6 tn)).size ≤ 7 := by rw [txt_size]; exact vF_length 6 tn
 generalize txt [byt kn] = t0 at *
 generalize txt (vF 6 key.size) = t1 at *
 generalize txt (vF 6 fn) = t2 at *
 generalize txt (vF 6 tn) = t3 at *
 have p1 : ¬ 9223372036854775807 < t0.size + t1.size := by omega
 have p2 : ¬ 9223372036854775807 < t0.size + t1.size + key.size := by omega
 have p3 : ¬ 9223372036854775807 < t0.size + t1.size + key.size + t2.size := by omega
 have p4 : ¬ 9223372036854775807 < t0.size + t1.size + key.size + t2.size + t3.size := by omega
 have p5 : ¬ 9223372036854775807 < t0.size + t1.size + key.size + t2.size + t3.size + d.size := by omega
 have hks : (key.size : Int) ≤ 9223372036854775807 := by omega
 clear a1 a2 a3 a4 a5 a6 a7 l0 l1 l2 l3 hd
 unfold vOp at *
 simp only at *
 go_enter Tryz.func85, Tryz.ntmps85
 go_wp2_with fail
 generalize w.alloc (.cells #[.int .i64 (kn : Int), .string key, .int .i64 (fn : Int), .int .i64 (tn : Int), .string d] 38) = W at *
 refine (c0 _).mono ?_
 rintro e y1 ⟨rfl, hb1⟩
 have D0 : Hid (Below w.heap.size w y1.drew) := (hb0.trans (hb1.mono hb0.size)).drew
 have K0 : Hid (Blk y1.drew w.heap.size #[.int .i64 (kn : Int), .string key, .int .i64 (fn : Int), .int .i64 (tn : Int), .string d] 38) := k0.on hb1.drew k0.lt
 clear hb0 hb1 c0 k0
 have S0 : Hid (y1.drew.cell? ⟨w.heap.size, 0, none⟩ = some (.int .i64 (kn : Int)) ∧ y1.drew.cell? ⟨w.heap.size, 1, none⟩ = some (.string key) ∧ y1.drew.cell? ⟨w.heap.size, 2, none⟩ = some (.int .i64 (fn : Int)) ∧ y1.drew.cell? ⟨w.heap.size, 3, none⟩ = some (.int .i64 (tn : Int)) ∧ y1.drew.cell? ⟨w.heap.size, 4, none⟩ = some (.string d)) := ⟨K0.out.cell 0 _ rfl, K0.out.cell 1 _ rfl, K0.out.cell 2 _ rfl, K0.out.cell 3 _ rfl, K0.out.cell 4 _ rfl⟩
 go_wp2_with fail
 refine wp_region_until (fun w' => w'.cell? ⟨w.heap.size, 0, none⟩ = some (.int .i64 (kn : Int)) ∧ w'.cell? ⟨w.heap.size, 1, none⟩ = some (.string key) ∧ w'.cell? ⟨w.heap.size, 2, none⟩ = some (.int .i64 (fn : Int)) ∧ w'.cell? ⟨w.heap.size, 3, none⟩ = some (.int .i64 (tn : Int)) ∧ w'.cell? ⟨w.heap.size, 4, none⟩ = some (.string d)) (fun i => false) 25 (by rfl) (by kernel_rfl) ?_
 generalize y1.drew = X at *
 refine tKf 0 S0.out ?_
 refine tKf 1 S0.out ?_
 refine pUf 2 ?_
 refine tKf 5 S0.out ?_
 refine tKf 6 S0.out ?_
 refine pUf 7 ?_
 refine tKf 10 S0.out ?_
 refine tKf 11 S0.out ?_
 refine tKf 13 S0.out ?_
 refine tKf 14 S0.out ?_
 refine tKf 17 S0.out ?_
 refine tKf 18 S0.out ?_
 refine tKf 21 S0.out ?_
 refine tKf 22 S0.out ?_
 refine until_two 3 8 (by rfl) (by rfl) (by kernel_rfl) (fun K hK => ?_) (fun K hK => ?_)
 ·go_simp
  have G1 : Hid (Blk (X.alloc (.cells #[.int .u8 (kn : Int)] 5)) X.heap.size #[.int .u8 (kn : Int)] 5) := Blk.new _ _ _
  have KY1 : Hid (Blk (X.alloc (.cells #[.int .u8 (kn : Int)] 5)) w.heap.size #[.int .i64 (kn : Int), .string key, .int .i64 (fn : Int), .int .i64 (tn : Int), .string d] 38) := K0.out.alloc _
  have DY1 : Hid (Below w.heap.size w (X.alloc (.cells #[.int .u8 (kn : Int)] 5))) := D0.out.alloc D0.out.size _
  refine hK.out _ _ (fun _ _ => ⟨KY1.out.cell 0 _ rfl, KY1.out.cell 1 _ rfl, KY1.out.cell 2 _ rfl, KY1.out.cell 3 _ rfl, KY1.out.cell 4 _ rfl⟩) ?_
  clear hK K
  generalize hg1 : X.heap.size = gb1 at *
  generalize X.alloc (.cells #[.int .u8 (kn : Int)] 5) = Y1 at *
  try simp only [Act.put, zQ1, zQ2, zQ3]
  refine until_two 4 8 (by rfl) (by rfl) (by kernel_rfl) (fun K hK => ?_) (fun K hK => ?_)
  ·have hcv := cC gb1 Y1 (G1.out.cell 0 _ rfl)
   go_simp
   clear hcv
   refine hK.out _ _ (fun _ h => h) ?_
   clear hK K
   try simp only [Act.put, zQ1, zQ2, zQ3]
   refine uNe 8 (fun K hK => ?_)
   go_simp
   refine (cN _).mono ?_
   rintro e Y3 ⟨rfl, hb3⟩
   have KY3 : Hid (Blk Y3 w.heap.size #[.int .i64 (kn : Int), .string key, .int .i64 (fn : Int), .int .i64 (tn : Int), .string d] 38) := KY1.out.on hb3 KY1.out.lt
   have DY3 : Hid (Below w.heap.size w Y3) := DY1.out.trans (hb3.mono DY1.out.size)
   clear hb3
   go_wp2_with fail
   refine hK.out _ _ (fun _ _ => ⟨KY3.out.cell 0 _ rfl, KY3.out.cell 1 _ rfl, KY3.out.cell 2 _ rfl, KY3.out.cell 3 _ rfl, KY3.out.cell 4 _ rfl⟩) ?_
   clear hK K
   try simp only [Act.put, zQ1, zQ2, zQ3]
   refine pUf 9 ?_
   refine pUf 12 ?_
   refine uNe 15 (fun K hK => ?_)
   go_simp
   refine (cA _).mono ?_
   rintro e Y4 ⟨rfl, hb4⟩
   have KY4 : Hid (Blk Y4 w.heap.size #[.int .i64 (kn : Int), .string key, .int .i64 (fn : Int), .int .i64 (tn : Int), .string d] 38) := KY3.out.on hb4 KY3.out.lt
   have DY4 : Hid (Below w.heap.size w Y4) := DY3.out.trans (hb4.mono DY3.out.size)
   clear hb4
   go_wp2_with fail
   refine hK.out _ _ (fun _ _ => ⟨KY4.out.cell 0 _ rfl, KY4.out.cell 1 _ rfl, KY4.out.cell 2 _ rfl, KY4.out.cell 3 _ rfl, KY4.out.cell 4 _ rfl⟩) ?_
   clear hK K
   try simp only [Act.put, zQ1, zQ2, zQ3]
   refine pUf 16 ?_
   refine uNe 19 (fun K hK => ?_)
   go_simp
   refine (cB _).mono ?_
   rintro e Y5 ⟨rfl, hb5⟩
   have KY5 : Hid (Blk Y5 w.heap.size #[.int .i64 (kn : Int), .string key, .int .i64 (fn : Int), .int .i64 (tn : Int), .string d] 38) := KY4.out.on hb5 KY4.out.lt
   have DY5 : Hid (Below w.heap.size w Y5) := DY4.out.trans (hb5.mono DY4.out.size)
   clear hb5
   go_wp2_with fail
   refine hK.out _ _ (fun _ _ => ⟨KY5.out.cell 0 _ rfl, KY5.out.cell 1 _ rfl, KY5.out.cell 2 _ rfl, KY5.out.cell 3 _ rfl, KY5.out.cell 4 _ rfl⟩) ?_
   clear hK K
   try simp only [Act.put, zQ1, zQ2, zQ3]
   refine pUf 20 ?_
   refine pUf 23 ?_
   refine pUf 24 ?_
   refine until_done (by kernel_rfl) ?_ _
   go_wp2_with fail
   go_ret
   exact ⟨by rw [HE.out]; rfl, DY5.out⟩
  ·go_simp
   refine (cN _).mono ?_
   rintro e Y6 ⟨rfl, hb6⟩
   have KY6 : Hid (Blk Y6 w.heap.size #[.int .i64 (kn : Int), .string key, .int .i64 (fn : Int), .int .i64 (tn : Int), .string d] 38) := KY1.out.on hb6 KY1.out.lt
   have DY6 : Hid (Below w.heap.size w Y6) := DY1.out.trans (hb6.mono DY1.out.size)
   have G6 : Hid (Blk Y6 gb1 #[.int .u8 (kn : Int)] 5) := G1.out.on hb6 G1.out.lt
   clear hb6
   go_wp2_with fail
   refine hK.out _ _ (fun _ _ => ⟨KY6.out.cell 0 _ rfl, KY6.out.cell 1 _ rfl, KY6.out.cell 2 _ rfl, KY6.out.cell 3 _ rfl, KY6.out.cell 4 _ rfl⟩) ?_
   clear hK K
   try simp only [Act.put, zQ1, zQ2, zQ3]
   refine until_two 4 15 (by rfl) (by rfl) (by kernel_rfl) (fun K hK => ?_) (fun K hK => ?_)
   ·have hcv := cC gb1 Y6 (G6.out.cell 0 _ rfl)
    go_simp
    clear hcv
    refine hK.out _ _ (fun _ h => h) ?_
    clear hK K
    try simp only [Act.put, zQ1, zQ2, zQ3]
    refine pUf 9 ?_
    refine pUf 12 ?_
    refine uNe 15 (fun K hK => ?_)
    go_simp
    refine (cA _).mono ?_
    rintro e Y8 ⟨rfl, hb8⟩
    have KY8 : Hid (Blk Y8 w.heap.size #[.int .i64 (kn : Int), .string key, .int .i64 (fn : Int), .int .i64 (tn : Int), .string d] 38) := KY6.out.on hb8 KY6.out.lt
    have DY8 : Hid (Below w.heap.size w Y8) := DY6.out.trans (hb8.mono DY6.out.size)
    clear hb8
    go_wp2_with fail
    refine hK.out _ _ (fun _ _ => ⟨KY8.out.cell 0 _ rfl, KY8.out.cell 1 _ rfl, KY8.out.cell 2 _ rfl, KY8.out.cell 3 _ rfl, KY8.out.cell 4 _ rfl⟩) ?_
    clear hK K
    try simp only [Act.put, zQ1, zQ2, zQ3]
    refine pUf 16 ?_
    refine uNe 19 (fun K hK => ?_)
    go_simp
    refine (cB _).mono ?_
    rintro e Y9 ⟨rfl, hb9⟩
    have KY9 : Hid (Blk Y9 w.heap.size #[.int .i64 (kn : Int), .string key, .int .i64 (fn : Int), .int .i64 (tn : Int), .string d] 38) := KY8.out.on hb9 KY8.out.lt
    have DY9 : Hid (Below w.heap.size w Y9) := DY8.out.trans (hb9.mono DY8.out.size)
    clear hb9
    go_wp2_with fail
    refine hK.out _ _ (fun _ _ => ⟨KY9.out.cell 0 _ rfl, KY9.out.cell 1 _ rfl, KY9.out.cell 2 _ rfl, KY9.out.cell 3 _ rfl, KY9.out.cell 4 _ rfl⟩) ?_
    clear hK K
    try simp only [Act.put, zQ1, zQ2, zQ3]
    refine pUf 20 ?_
    refine pUf 23 ?_
    refine pUf 24 ?_
    refine until_done (by kernel_rfl) ?_ _
    go_wp2_with fail
    go_ret
    exact ⟨by rw [HE.out]; rfl, DY9.out⟩
   ·go_simp
    refine (cA _).mono ?_
    rintro e Y10 ⟨rfl, hb10⟩
    have KY10 : Hid (Blk Y10 w.heap.size #[.int .i64 (kn : Int), .string key, .int .i64 (fn : Int), .int .i64 (tn : Int), .string d] 38) := KY6.out.on hb10 KY6.out.lt
    have DY10 : Hid (Below w.heap.size w Y10) := DY6.out.trans (hb10.mono DY6.out.size)
    have G10 : Hid (Blk Y10 gb1 #[.int .u8 (kn : Int)] 5) := G6.out.on hb10 G6.out.lt
    clear hb10
    go_wp2_with fail
    refine hK.out _ _ (fun _ _ => ⟨KY10.out.cell 0 _ rfl, KY10.out.cell 1 _ rfl, KY10.out.cell 2 _ rfl, KY10.out.cell 3 _ rfl, KY10.out.cell 4 _ rfl⟩) ?_
    clear hK K
    try simp only [Act.put, zQ1, zQ2, zQ3]
    refine until_two 4 19 (by rfl) (by rfl) (by kernel_rfl) (fun K hK => ?_) (fun K hK => ?_)
    ·have hcv := cC gb1 Y10 (G10.out.cell 0 _ rfl)
     go_simp
     clear hcv
     refine hK.out _ _ (fun _ h => h) ?_
     clear hK K
     try simp only [Act.put, zQ1, zQ2, zQ3]
     refine pUf 9 ?_
     refine pUf 12 ?_
     refine pUf 16 ?_
     refine uNe 19 (fun K hK => ?_)
     go_simp
     refine (cB _).mono ?_
     rintro e Y12 ⟨rfl, hb12⟩
     have KY12 : Hid (Blk Y12 w.heap.size #[.int .i64 (kn : Int), .string key, .int .i64 (fn : Int), .int .i64 (tn : Int), .string d] 38) := KY10.out.on hb12 KY10.out.lt
     have DY12 : Hid (Below w.heap.size w Y12) := DY10.out.trans (hb12.mono DY10.out.size)
     clear hb12
     go_wp2_with fail
     refine hK.out _ _ (fun _ _ => ⟨KY12.out.cell 0 _ rfl, KY12.out.cell 1 _ rfl, KY12.out.cell 2 _ rfl, KY12.out.cell 3 _ rfl, KY12.out.cell 4 _ rfl⟩) ?_
     clear hK K
     try simp only [Act.put, zQ1, zQ2, zQ3]
     refine pUf 20 ?_
     refine pUf 23 ?_
     refine pUf 24 ?_
     refine until_done (by kernel_rfl) ?_ _
     go_wp2_with fail
     go_ret
     exact ⟨by rw [HE.out]; rfl, DY12.out⟩
    ·go_simp
     refine (cB _).mono ?_
     rintro e Y13 ⟨rfl, hb13⟩
     have KY13 : Hid (Blk Y13 w.heap.size #[.int .i64 (kn : Int), .string key, .int .i64 (fn : Int), .int .i64 (tn : Int), .string d] 38) := KY10.out.on hb13 KY10.out.lt
     have DY13 : Hid (Below w.heap.size w Y13) := DY10.out.trans (hb13.mono DY10.out.size)
     have G13 : Hid (Blk Y13 gb1 #[.int .u8 (kn : Int)] 5) := G10.out.on hb13 G10.out.lt
     clear hb13
     go_wp2_with fail
     refine hK.out _ _ (fun _ _ => ⟨KY13.out.cell 0 _ rfl, KY13.out.cell 1 _ rfl, KY13.out.cell 2 _ rfl, KY13.out.cell 3 _ rfl, KY13.out.cell 4 _ rfl⟩) ?_
     clear hK K
     try simp only [Act.put, zQ1, zQ2, zQ3]
     refine uNe 4 (fun K hK => ?_)
     have hcv := cC gb1 Y13 (G13.out.cell 0 _ rfl)
     go_simp
     clear hcv
     refine hK.out _ _ (fun _ h => h) ?_
     clear hK K
     try simp only [Act.put, zQ1, zQ2, zQ3]
     refine pUf 9 ?_
     refine pUf 12 ?_
     refine pUf 16 ?_
     refine pUf 20 ?_
     refine pUf 23 ?_
     refine pUf 24 ?_
     refine until_done (by kernel_rfl) ?_ _
     go_wp2_with fail
     go_ret
     exact ⟨by rw [HE.out]; rfl, DY13.out⟩
 ·go_simp
  refine (cN _).mono ?_
  rintro e Y15 ⟨rfl, hb15⟩
  have KY15 : Hid (Blk Y15 w.heap.size #[.int .i64 (kn : Int), .string key, .int .i64 (fn : Int), .int .i64 (tn : Int), .string d] 38) := K0.out.on hb15 K0.out.lt
  have DY15 : Hid (Below w.heap.size w Y15) := D0.out.trans (hb15.mono D0.out.size)
  clear hb15
  go_wp2_with fail
  refine hK.out _ _ (fun _ _ => ⟨KY15.out.cell 0 _ rfl, KY15.out.cell 1 _ rfl, KY15.out.cell 2 _ rfl, KY15.out.cell 3 _ rfl, KY15.out.cell 4 _ rfl⟩) ?_
  clear hK K
  try simp only [Act.put, zQ1, zQ2, zQ3]
  refine until_two 3 15 (by rfl) (by rfl) (by kernel_rfl) (fun K hK => ?_) (fun K hK => ?_)
  ·go_simp
   have G16 : Hid (Blk (Y15.alloc (.cells #[.int .u8 (kn : Int)] 5)) Y15.heap.size #[.int .u8 (kn : Int)] 5) := Blk.new _ _ _
   have KY16 : Hid (Blk (Y15.alloc (.cells #[.int .u8 (kn : Int)] 5)) w.heap.size #[.int .i64 (kn : Int), .string key, .int .i64 (fn : Int), .int .i64 (tn : Int), .string d] 38) := KY15.out.alloc _
   have DY16 : Hid (Below w.heap.size w (Y15.alloc (.cells #[.int .u8 (kn : Int)] 5))) := DY15.out.alloc DY15.out.size _
   refine hK.out _ _ (fun _ _ => ⟨KY16.out.cell 0 _ rfl, KY16.out.cell 1 _ rfl, KY16.out.cell 2 _ rfl, KY16.out.cell 3 _ rfl, KY16.out.cell 4 _ rfl⟩) ?_
   clear hK K
   generalize hg16 : Y15.heap.size = gb16 at *
   generalize Y15.alloc (.cells #[.int .u8 (kn : Int)] 5) = Y16 at *
   try simp only [Act.put, zQ1, zQ2, zQ3]
   refine until_two 4 15 (by rfl) (by rfl) (by kernel_rfl) (fun K hK => ?_) (fun K hK => ?_)
   ·have hcv := cC gb16 Y16 (G16.out.cell 0 _ rfl)
    go_simp
    clear hcv
    refine hK.out _ _ (fun _ h => h) ?_
    clear hK K
    try simp only [Act.put, zQ1, zQ2, zQ3]
    refine pUf 9 ?_
    refine pUf 12 ?_
    refine uNe 15 (fun K hK => ?_)
    go_simp
    refine (cA _).mono ?_
    rintro e Y18 ⟨rfl, hb18⟩
    have KY18 : Hid (Blk Y18 w.heap.size #[.int .i64 (kn : Int), .string key, .int .i64 (fn : Int), .int .i64 (tn : Int), .string d] 38) := KY16.out.on hb18 KY16.out.lt
    have DY18 : Hid (Below w.heap.size w Y18) := DY16.out.trans (hb18.mono DY16.out.size)
    clear hb18
    go_wp2_with fail
    refine hK.out _ _ (fun _ _ => ⟨KY18.out.cell 0 _ rfl, KY18.out.cell 1 _ rfl, KY18.out.cell 2 _ rfl, KY18.out.cell 3 _ rfl, KY18.out.cell 4 _ rfl⟩) ?_
    clear hK K
    try simp only [Act.put, zQ1, zQ2, zQ3]
    refine pUf 16 ?_
    refine uNe 19 (fun K hK => ?_)
    go_simp
    refine (cB _).mono ?_
    rintro e Y19 ⟨rfl, hb19⟩
    have KY19 : Hid (Blk Y19 w.heap.size #[.int .i64 (kn : Int), .string key, .int .i64 (fn : Int), .int .i64 (tn : Int), .string d] 38) := KY18.out.on hb19 KY18.out.lt
    have DY19 : Hid (Below w.heap.size w Y19) := DY18.out.trans (hb19.mono DY18.out.size)
    clear hb19
    go_wp2_with fail
    refine hK.out _ _ (fun _ _ => ⟨KY19.out.cell 0 _ rfl, KY19.out.cell 1 _ rfl, KY19.out.cell 2 _ rfl, KY19.out.cell 3 _ rfl, KY19.out.cell 4 _ rfl⟩) ?_
    clear hK K
    try simp only [Act.put, zQ1, zQ2, zQ3]
    refine pUf 20 ?_
    refine pUf 23 ?_
    refine pUf 24 ?_
    refine until_done (by kernel_rfl) ?_ _
    go_wp2_with fail
    go_ret
    exact ⟨by rw [HE.out]; rfl, DY19.out⟩
   ·go_simp
    refine (cA _).mono ?_
    rintro e Y20 ⟨rfl, hb20⟩
    have KY20 : Hid (Blk Y20 w.heap.size #[.int .i64 (kn : Int), .string key, .int .i64 (fn : Int), .int .i64 (tn : Int), .string d] 38) := KY16.out.on hb20 KY16.out.lt
    have DY20 : Hid (Below w.heap.size w Y20) := DY16.out.trans (hb20.mono DY16.out.size)
    have G20 : Hid (Blk Y20 gb16 #[.int .u8 (kn : Int)] 5) := G16.out.on hb20 G16.out.lt
    clear hb20
    go_wp2_with fail
    refine hK.out _ _ (fun _ _ => ⟨KY20.out.cell 0 _ rfl, KY20.out.cell 1 _ rfl, KY20.out.cell 2 _ rfl, KY20.out.cell 3 _ rfl, KY20.out.cell 4 _ rfl⟩) ?_
    clear hK K
    try simp only [Act.put, zQ1, zQ2, zQ3]
    refine until_two 4 19 (by rfl) (by rfl) (by kernel_rfl) (fun K hK => ?_) (fun K hK => ?_)
    ·have hcv := cC gb16 Y20 (G20.out.cell 0 _ rfl)
     go_simp
     clear hcv
     refine hK.out _ _ (fun _ h => h) ?_
     clear hK K
     try simp only [Act.put, zQ1, zQ2, zQ3]
     refine pUf 9 ?_
     refine pUf 12 ?_
     refine pUf 16 ?_
     refine uNe 19 (fun K hK => ?_)
     go_simp
     refine (cB _).mono ?_
     rintro e Y22 ⟨rfl, hb22⟩
     have KY22 : Hid (Blk Y22 w.heap.size #[.int .i64 (kn : Int), .string key, .int .i64 (fn : Int), .int .i64 (tn : Int), .string d] 38) := KY20.out.on hb22 KY20.out.lt
     have DY22 : Hid (Below w.heap.size w Y22) := DY20.out.trans (hb22.mono DY20.out.size)
     clear hb22
     go_wp2_with fail
     refine hK.out _ _ (fun _ _ => ⟨KY22.out.cell 0 _ rfl, KY22.out.cell 1 _ rfl, KY22.out.cell 2 _ rfl, KY22.out.cell 3 _ rfl, KY22.out.cell 4 _ rfl⟩) ?_
     clear hK K
     try simp only [Act.put, zQ1, zQ2, zQ3]
     refine pUf 20 ?_
     refine pUf 23 ?_
     refine pUf 24 ?_
     refine until_done (by kernel_rfl) ?_ _
     go_wp2_with fail
     go_ret
     exact ⟨by rw [HE.out]; rfl, DY22.out⟩
    ·go_simp
     refine (cB _).mono ?_
     rintro e Y23 ⟨rfl, hb23⟩
     have KY23 : Hid (Blk Y23 w.heap.size #[.int .i64 (kn : Int), .string key, .int .i64 (fn : Int), .int .i64 (tn : Int), .string d] 38) := KY20.out.on hb23 KY20.out.lt
     have DY23 : Hid (Below w.heap.size w Y23) := DY20.out.trans (hb23.mono DY20.out.size)
     have G23 : Hid (Blk Y23 gb16 #[.int .u8 (kn : Int)] 5) := G20.out.on hb23 G20.out.lt
     clear hb23
     go_wp2_with fail
     refine hK.out _ _ (fun _ _ => ⟨KY23.out.cell 0 _ rfl, KY23.out.cell 1 _ rfl, KY23.out.cell 2 _ rfl, KY23.out.cell 3 _ rfl, KY23.out.cell 4 _ rfl⟩) ?_
     clear hK K
     try simp only [Act.put, zQ1, zQ2, zQ3]
     refine uNe 4 (fun K hK => ?_)
     have hcv := cC gb16 Y23 (G23.out.cell 0 _ rfl)
     go_simp
     clear hcv
     refine hK.out _ _ (fun _ h => h) ?_
     clear hK K
     try simp only [Act.put, zQ1, zQ2, zQ3]
     refine pUf 9 ?_
     refine pUf 12 ?_
     refine pUf 16 ?_
     refine pUf 20 ?_
     refine pUf 23 ?_
     refine pUf 24 ?_
     refine until_done (by kernel_rfl) ?_ _
     go_wp2_with fail
     go_ret
     exact ⟨by rw [HE.out]; rfl, DY23.out⟩
  ·go_simp
   refine (cA _).mono ?_
   rintro e Y25 ⟨rfl, hb25⟩
   have KY25 : Hid (Blk Y25 w.heap.size #[.int .i64 (kn : Int), .string key, .int .i64 (fn : Int), .int .i64 (tn : Int), .string d] 38) := KY15.out.on hb25 KY15.out.lt
   have DY25 : Hid (Below w.heap.size w Y25) := DY15.out.trans (hb25.mono DY15.out.size)
   clear hb25
   go_wp2_with fail
   refine hK.out _ _ (fun _ _ => ⟨KY25.out.cell 0 _ rfl, KY25.out.cell 1 _ rfl, KY25.out.cell 2 _ rfl, KY25.out.cell 3 _ rfl, KY25.out.cell 4 _ rfl⟩) ?_
   clear hK K
   try simp only [Act.put, zQ1, zQ2, zQ3]
   refine until_two 3 19 (by rfl) (by rfl) (by kernel_rfl) (fun K hK => ?_) (fun K hK => ?_)
   ·go_simp
    have G26 : Hid (Blk (Y25.alloc (.cells #[.int .u8 (kn : Int)] 5)) Y25.heap.size #[.int .u8 (kn : Int)] 5) := Blk.new _ _ _
    have KY26 : Hid (Blk (Y25.alloc (.cells #[.int .u8 (kn : Int)] 5)) w.heap.size #[.int .i64 (kn : Int), .string key, .int .i64 (fn : Int), .int .i64 (tn : Int), .string d] 38) := KY25.out.alloc _
    have DY26 : Hid (Below w.heap.size w (Y25.alloc (.cells #[.int .u8 (kn : Int)] 5))) := DY25.out.alloc DY25.out.size _
    refine hK.out _ _ (fun _ _ => ⟨KY26.out.cell 0 _ rfl, KY26.out.cell 1 _ rfl, KY26.out.cell 2 _ rfl, KY26.out.cell 3 _ rfl, KY26.out.cell 4 _ rfl⟩) ?_
    clear hK K
    generalize hg26 : Y25.heap.size = gb26 at *
    generalize Y25.alloc (.cells #[.int .u8 (kn : Int)] 5) = Y26 at *
    try simp only [Act.put, zQ1, zQ2, zQ3]
    refine until_two 4 19 (by rfl) (by rfl) (by kernel_rfl) (fun K hK => ?_) (fun K hK => ?_)
    ·have hcv := cC gb26 Y26 (G26.out.cell 0 _ rfl)
     go_simp
     clear hcv
     refine hK.out _ _ (fun _ h => h) ?_
     clear hK K
     try simp only [Act.put, zQ1, zQ2, zQ3]
     refine pUf 9 ?_
     refine pUf 12 ?_
     refine pUf 16 ?_
     refine uNe 19 (fun K hK => ?_)
     go_simp
     refine (cB _).mono ?_
     rintro e Y28 ⟨rfl, hb28⟩
     have KY28 : Hid (Blk Y28 w.heap.size #[.int .i64 (kn : Int), .string key, .int .i64 (fn : Int), .int .i64 (tn : Int), .string d] 38) := KY26.out.on hb28 KY26.out.lt
     have DY28 : Hid (Below w.heap.size w Y28) := DY26.out.trans (hb28.mono DY26.out.size)
     clear hb28
     go_wp2_with fail
     refine hK.out _ _ (fun _ _ => ⟨KY28.out.cell 0 _ rfl, KY28.out.cell 1 _ rfl, KY28.out.cell 2 _ rfl, KY28.out.cell 3 _ rfl, KY28.out.cell 4 _ rfl⟩) ?_
     clear hK K
     try simp only [Act.put, zQ1, zQ2, zQ3]
     refine pUf 20 ?_
     refine pUf 23 ?_
     refine pUf 24 ?_
     refine until_done (by kernel_rfl) ?_ _
     go_wp2_with fail
     go_ret
     exact ⟨by rw [HE.out]; rfl, DY28.out⟩
    ·go_simp
     refine (cB _).mono ?_
     rintro e Y29 ⟨rfl, hb29⟩
     have KY29 : Hid (Blk Y29 w.heap.size #[.int .i64 (kn : Int), .string key, .int .i64 (fn : Int), .int .i64 (tn : Int), .string d] 38) := KY26.out.on hb29 KY26.out.lt
     have DY29 : Hid (Below w.heap.size w Y29) := DY26.out.trans (hb29.mono DY26.out.size)
     have G29 : Hid (Blk Y29 gb26 #[.int .u8 (kn : Int)] 5) := G26.out.on hb29 G26.out.lt
     clear hb29
     go_wp2_with fail
     refine hK.out _ _ (fun _ _ => ⟨KY29.out.cell 0 _ rfl, KY29.out.cell 1 _ rfl, KY29.out.cell 2 _ rfl, KY29.out.cell 3 _ rfl, KY29.out.cell 4 _ rfl⟩) ?_
     clear hK K
     try simp only [Act.put, zQ1, zQ2, zQ3]
     refine uNe 4 (fun K hK => ?_)
     have hcv := cC gb26 Y29 (G29.out.cell 0 _ rfl)
     go_simp
     clear hcv
     refine hK.out _ _ (fun _ h => h) ?_
     clear hK K
     try simp only [Act.put, zQ1, zQ2, zQ3]
     refine pUf 9 ?_
     refine pUf 12 ?_
     refine pUf 16 ?_
     refine pUf 20 ?_
     refine pUf 23 ?_
     refine pUf 24 ?_
     refine until_done (by kernel_rfl) ?_ _
     go_wp2_with fail
     go_ret
     exact ⟨by rw [HE.out]; rfl, DY29.out⟩
   ·go_simp
    refine (cB _).mono ?_
    rintro e Y31 ⟨rfl, hb31⟩
    have KY31 : Hid (Blk Y31 w.heap.size #[.int .i64 (kn : Int), .string key, .int .i64 (fn : Int), .int .i64 (tn : Int), .string d] 38) := KY25.out.on hb31 KY25.out.lt
    have DY31 : Hid (Below w.heap.size w Y31) := DY25.out.trans (hb31.mono DY25.out.size)
    clear hb31
    go_wp2_with fail
    refine hK.out _ _ (fun _ _ => ⟨KY31.out.cell 0 _ rfl, KY31.out.cell 1 _ rfl, KY31.out.cell 2 _ rfl, KY31.out.cell 3 _ rfl, KY31.out.cell 4 _ rfl⟩) ?_
    clear hK K
    try simp only [Act.put, zQ1, zQ2, zQ3]
    refine uNe 3 (fun K hK => ?_)
    go_simp
    have G32 : Hid (Blk (Y31.alloc (.cells #[.int .u8 (kn : Int)] 5)) Y31.heap.size #[.int .u8 (kn : Int)] 5) := Blk.new _ _ _
    have KY32 : Hid (Blk (Y31.alloc (.cells #[.int .u8 (kn : Int)] 5)) w.heap.size #[.int .i64 (kn : Int), .string key, .int .i64 (fn : Int), .int .i64 (tn : Int), .string d] 38) := KY31.out.alloc _
    have DY32 : Hid (Below w.heap.size w (Y31.alloc (.cells #[.int .u8 (kn : Int)] 5))) := DY31.out.alloc DY31.out.size _
    refine hK.out _ _ (fun _ _ => ⟨KY32.out.cell 0 _ rfl, KY32.out.cell 1 _ rfl, KY32.out.cell 2 _ rfl, KY32.out.cell 3 _ rfl, KY32.out.cell 4 _ rfl⟩) ?_
    clear hK K
    generalize hg32 : Y31.heap.size = gb32 at *
    generalize Y31.alloc (.cells #[.int .u8 (kn : Int)] 5) = Y32 at *
    try simp only [Act.put, zQ1, zQ2, zQ3]
    refine uNe 4 (fun K hK => ?_)
    have hcv := cC gb32 Y32 (G32.out.cell 0 _ rfl)
    go_simp
    clear hcv
    refine hK.out _ _ (fun _ h => h) ?_
    clear hK K
    try simp only [Act.put, zQ1, zQ2, zQ3]
    refine pUf 9 ?_
    refine pUf 12 ?_
    refine pUf 16 ?_
    refine pUf 20 ?_
    refine pUf 23 ?_
    refine pUf 24 ?_
    refine until_done (by kernel_rfl) ?_ _
    go_wp2_with fail
    go_ret
    exact ⟨by rw [HE.out]; rfl, DY32.out⟩
end Go.Proofs.YtifmjdakefkbiaaGreatDoor
