/- OpS -/
import Derived.Test.YtgbepickfhbknaaGreatDoorRows
import Derived.Test.YtgbepickfhbknaaGreatDoorQr4
import Derived.Test.YtgbepickfhbknaaGreatDoorQr8
import Derived.Test.YtgbepickfhbknaaGreatDoorQr6
import Derived.WalkKit
import Derived.ProofKit
import Derived.OpenShut
import Derived.Below
import Derived.WalkSmall
import Derived.WalkLawsBesides
import Derived.Outline
import Derived.BigQuiet
import Derived.Deep.QuietTactic
import Derived.Handy
import Derived.Deep.Cut
import Derived.Deep.CutRange
import Derived.Laws.StructEq
namespace Go.Proofs.YtgbepickfhbknaaGreatDoor
open Go.ChangeShapes Go.WideShapes Go.ChangeAt Go.RowKit Go.PlainAid
set_option linter.unusedVariables false
set_option maxHeartbeats 8000000 in
theorem specOpOk_1 (k : ByteArray) (f t : Int) (d : ByteArray) (w : World) (hk : k.size ≤ maxLen) : Calls Tryz.prog 16 #[vOp ⟨1, k, f, t, d⟩] w fun e w' => e = .returned (.bool (opOk ⟨1, k, f, t, d⟩)) ∧ Below w.heap.size w w' := by
 have HE : Hid (opOk ⟨1, k, f, t, d⟩ = (spanB f t && emB k && emB d)) := by unfold Hid opOk; simp
 have HB : Hid (∀ o, Below w.heap.size w ((w.alloc (.cells #[.int .i64 1, .string k, .int .i64 f, .int .i64 t, .string d] 23)).alloc o)) := fun o => ((below_a1 _ _).alloc (by simp) o)
 have cI := inS f 0 1099511627776
 have cH := inS f 0 100000
 have cK := fun wx => specKey k wx hk
 clear hk
 rw [show decide (KOk k) = keyB k from by unfold keyB; first | rfl | congr] at cK
 unfold vOp
 simp only
 go_enter Tryz.func16, Tryz.ntmps16
 go_upto_region 1 with fail
 go_cut [3] from 8 to 22 (fun s3 wc => s3 = .bool (spanB f t) ∧ wc = w.alloc (.cells #[.int .i64 1, .string k, .int .i64 f, .int .i64 t, .string d] 23))
 case first =>
  clear HE HB
  by_cases h1 : 0 ≤ f
  ·by_cases h2 : f < t
   ·by_cases h3 : t ≤ 1099511627776
    ·go_wp2_with fail
     go_meet
     exact ⟨by simp [spanB, *], rfl⟩
    ·have d3 : decide (t ≤ 1099511627776) = false := decide_eq_false h3
     go_wp2_with fail
     go_meet
     exact ⟨by simp [spanB, *], rfl⟩
   ·have d2 : decide (f < t) = false := decide_eq_false h2
    go_wp2_with fail
    go_meet
    exact ⟨by simp [spanB, *], rfl⟩
  ·have d1 : decide (0 ≤ f) = false := decide_eq_false h1
   go_wp2_with fail
   go_meet
   exact ⟨by simp [spanB, *], rfl⟩
 case rest =>
  obtain ⟨rfl, rfl⟩ := hcut
  by_cases hk : k = ⟨#[]⟩
  ·subst hk
   rw [em_nil] at HE
   by_cases hd : d = ⟨#[]⟩
   ·subst hd
    rw [em_nil] at HE
    cases hc : spanB f t <;> rw [hc] at HE
    ·go_wp2_with fail
     go_ret
     exact ⟨by rw [HE.out]; first | rfl | simp, HB.out _⟩
    ·go_wp2_with fail
     go_ret
     exact ⟨by rw [HE.out]; first | rfl | simp, HB.out _⟩
   ·obtain ⟨ed1, ed2, ed3, ed4⟩ := em_facts hd
    rw [ed4] at HE
    clear ed4 hd
    cases hc : spanB f t <;> rw [hc] at HE
    ·go_wp2_with fail
     go_ret
     exact ⟨by rw [HE.out]; first | rfl | simp, HB.out _⟩
    ·go_wp2_with fail
     go_ret
     exact ⟨by rw [HE.out]; first | rfl | simp, HB.out _⟩
  ·obtain ⟨ek1, ek2, ek3, ek4⟩ := em_facts hk
   rw [ek4] at HE
   clear ek4 hk
   by_cases hd : d = ⟨#[]⟩
   ·subst hd
    rw [em_nil] at HE
    cases hc : spanB f t <;> rw [hc] at HE
    ·go_wp2_with fail
     go_ret
     exact ⟨by rw [HE.out]; first | rfl | simp, HB.out _⟩
    ·go_wp2_with fail
     go_ret
     exact ⟨by rw [HE.out]; first | rfl | simp, HB.out _⟩
   ·obtain ⟨ed1, ed2, ed3, ed4⟩ := em_facts hd
    rw [ed4] at HE
    clear ed4 hd
    cases hc : spanB f t <;> rw [hc] at HE
    ·go_wp2_with fail
     go_ret
     exact ⟨by rw [HE.out]; first | rfl | simp, HB.out _⟩
    ·go_wp2_with fail
     go_ret
     exact ⟨by rw [HE.out]; first | rfl | simp, HB.out _⟩
set_option maxHeartbeats 8000000 in
theorem specOpOk_2 (k : ByteArray) (f t : Int) (d : ByteArray) (w : World) (hk : k.size ≤ maxLen) : Calls Tryz.prog 16 #[vOp ⟨2, k, f, t, d⟩] w fun e w' => e = .returned (.bool (opOk ⟨2, k, f, t, d⟩)) ∧ Below w.heap.size w w' := by
 have HE : Hid (opOk ⟨2, k, f, t, d⟩ = (inRg f 0 1099511627776 && emB k && zB t && emB d)) := by unfold Hid opOk; simp
 have HB : Hid (∀ o, Below w.heap.size w ((w.alloc (.cells #[.int .i64 2, .string k, .int .i64 f, .int .i64 t, .string d] 23)).alloc o)) := fun o => ((below_a1 _ _).alloc (by simp) o)
 have cI := inS f 0 1099511627776
 have cH := inS f 0 100000
 have cK := fun wx => specKey k wx hk
 clear hk
 rw [show decide (KOk k) = keyB k from by unfold keyB; first | rfl | congr] at cK
 unfold vOp
 simp only
 go_enter Tryz.func16, Tryz.ntmps16
 go_upto_region 1 with fail
 go_cut [3] from 8 to 22 (fun s3 wc => s3 = .bool (spanB f t) ∧ wc = w.alloc (.cells #[.int .i64 2, .string k, .int .i64 f, .int .i64 t, .string d] 23))
 case first =>
  clear HE HB
  by_cases h1 : 0 ≤ f
  ·by_cases h2 : f < t
   ·by_cases h3 : t ≤ 1099511627776
    ·go_wp2_with fail
     go_meet
     exact ⟨by simp [spanB, *], rfl⟩
    ·have d3 : decide (t ≤ 1099511627776) = false := decide_eq_false h3
     go_wp2_with fail
     go_meet
     exact ⟨by simp [spanB, *], rfl⟩
   ·have d2 : decide (f < t) = false := decide_eq_false h2
    go_wp2_with fail
    go_meet
    exact ⟨by simp [spanB, *], rfl⟩
  ·have d1 : decide (0 ≤ f) = false := decide_eq_false h1
   go_wp2_with fail
   go_meet
   exact ⟨by simp [spanB, *], rfl⟩
 case rest =>
  obtain ⟨rfl, rfl⟩ := hcut
  by_cases hk : k = ⟨#[]⟩
  ·subst hk
   rw [em_nil] at HE
   by_cases ht : t = 0
   ·subst ht
    rw [z_nil] at HE
    by_cases hd : d = ⟨#[]⟩
    ·subst hd
     rw [em_nil] at HE
     go_wp2_with fail
     refine (cI _).mono ?_
     rintro e w' ⟨rfl, rfl⟩
     cases hc : inRg f 0 1099511627776 <;> rw [hc] at HE
     ·go_wp2_with fail
      go_ret
      exact ⟨by rw [HE.out]; first | rfl | simp, HB.out _⟩
     ·go_wp2_with fail
      go_ret
      exact ⟨by rw [HE.out]; first | rfl | simp, HB.out _⟩
    ·obtain ⟨ed1, ed2, ed3, ed4⟩ := em_facts hd
     rw [ed4] at HE
     clear ed4 hd
     go_wp2_with fail
     refine (cI _).mono ?_
     rintro e w' ⟨rfl, rfl⟩
     cases hc : inRg f 0 1099511627776 <;> rw [hc] at HE
     ·go_wp2_with fail
      go_ret
      exact ⟨by rw [HE.out]; first | rfl | simp, HB.out _⟩
     ·go_wp2_with fail
      go_ret
      exact ⟨by rw [HE.out]; first | rfl | simp, HB.out _⟩
   ·obtain ⟨et1, et2, et4⟩ := z_facts ht
    rw [et4] at HE
    clear et4 ht
    by_cases hd : d = ⟨#[]⟩
    ·subst hd
     rw [em_nil] at HE
     go_wp2_with fail
     refine (cI _).mono ?_
     rintro e w' ⟨rfl, rfl⟩
     cases hc : inRg f 0 1099511627776 <;> rw [hc] at HE
     ·go_wp2_with fail
      go_ret
      exact ⟨by rw [HE.out]; first | rfl | simp, HB.out _⟩
     ·go_wp2_with fail
      go_ret
      exact ⟨by rw [HE.out]; first | rfl | simp, HB.out _⟩
    ·obtain ⟨ed1, ed2, ed3, ed4⟩ := em_facts hd
     rw [ed4] at HE
     clear ed4 hd
     go_wp2_with fail
     refine (cI _).mono ?_
     rintro e w' ⟨rfl, rfl⟩
     cases hc : inRg f 0 1099511627776 <;> rw [hc] at HE
     ·go_wp2_with fail
      go_ret
      exact ⟨by rw [HE.out]; first | rfl | simp, HB.out _⟩
     ·go_wp2_with fail
      go_ret
      exact ⟨by rw [HE.out]; first | rfl | simp, HB.out _⟩
  ·obtain ⟨ek1, ek2, ek3, ek4⟩ := em_facts hk
   rw [ek4] at HE
   clear ek4 hk
   by_cases ht : t = 0
   ·subst ht
    rw [z_nil] at HE
    by_cases hd : d = ⟨#[]⟩
    ·subst hd
     rw [em_nil] at HE
     go_wp2_with fail
     refine (cI _).mono ?_
     rintro e w' ⟨rfl, rfl⟩
     cases hc : inRg f 0 1099511627776 <;> rw [hc] at HE
     ·go_wp2_with fail
      go_ret
      exact ⟨by rw [HE.out]; first | rfl | simp, HB.out _⟩
     ·go_wp2_with fail
      go_ret
      exact ⟨by rw [HE.out]; first | rfl | simp, HB.out _⟩
    ·obtain ⟨ed1, ed2, ed3, ed4⟩ := em_facts hd
     rw [ed4] at HE
     clear ed4 hd
     go_wp2_with fail
     refine (cI _).mono ?_
     rintro e w' ⟨rfl, rfl⟩
     cases hc : inRg f 0 1099511627776 <;> rw [hc] at HE
     ·go_wp2_with fail
      go_ret
      exact ⟨by rw [HE.out]; first | rfl | simp, HB.out _⟩
     ·go_wp2_with fail
      go_ret
      exact ⟨by rw [HE.out]; first | rfl | simp, HB.out _⟩
   ·obtain ⟨et1, et2, et4⟩ := z_facts ht
    rw [et4] at HE
    clear et4 ht
    by_cases hd : d = ⟨#[]⟩
    ·subst hd
     rw [em_nil] at HE
     go_wp2_with fail
     refine (cI _).mono ?_
     rintro e w' ⟨rfl, rfl⟩
     cases hc : inRg f 0 1099511627776 <;> rw [hc] at HE
     ·go_wp2_with fail
      go_ret
      exact ⟨by rw [HE.out]; first | rfl | simp, HB.out _⟩
     ·go_wp2_with fail
      go_ret
      exact ⟨by rw [HE.out]; first | rfl | simp, HB.out _⟩
    ·obtain ⟨ed1, ed2, ed3, ed4⟩ := em_facts hd
     rw [ed4] at HE
     clear ed4 hd
     go_wp2_with fail
     refine (cI _).mono ?_
     rintro e w' ⟨rfl, rfl⟩
     cases hc : inRg f 0 1099511627776 <;> rw [hc] at HE
     ·go_wp2_with fail
      go_ret
      exact ⟨by rw [HE.out]; first | rfl | simp, HB.out _⟩
     ·go_wp2_with fail
      go_ret
      exact ⟨by rw [HE.out]; first | rfl | simp, HB.out _⟩
set_option maxHeartbeats 8000000 in
theorem specOpOk_3 (k : ByteArray) (f t : Int) (d : ByteArray) (w : World) (hk : k.size ≤ maxLen) : Calls Tryz.prog 16 #[vOp ⟨3, k, f, t, d⟩] w fun e w' => e = .returned (.bool (opOk ⟨3, k, f, t, d⟩)) ∧ Below w.heap.size w w' := by
 have HE : Hid (opOk ⟨3, k, f, t, d⟩ = (inRg f 0 100000 && emB k && zB t && emB d)) := by unfold Hid opOk; simp
 have HB : Hid (∀ o, Below w.heap.size w ((w.alloc (.cells #[.int .i64 3, .string k, .int .i64 f, .int .i64 t, .string d] 23)).alloc o)) := fun o => ((below_a1 _ _).alloc (by simp) o)
 have cI := inS f 0 1099511627776
 have cH := inS f 0 100000
 have cK := fun wx => specKey k wx hk
 clear hk
 rw [show decide (KOk k) = keyB k from by unfold keyB; first | rfl | congr] at cK
 unfold vOp
 simp only
 go_enter Tryz.func16, Tryz.ntmps16
 go_upto_region 1 with fail
 go_cut [3] from 8 to 22 (fun s3 wc => s3 = .bool (spanB f t) ∧ wc = w.alloc (.cells #[.int .i64 3, .string k, .int .i64 f, .int .i64 t, .string d] 23))
 case first =>
  clear HE HB
  by_cases h1 : 0 ≤ f
  ·by_cases h2 : f < t
   ·by_cases h3 : t ≤ 1099511627776
    ·go_wp2_with fail
     go_meet
     exact ⟨by simp [spanB, *], rfl⟩
    ·have d3 : decide (t ≤ 1099511627776) = false := decide_eq_false h3
     go_wp2_with fail
     go_meet
     exact ⟨by simp [spanB, *], rfl⟩
   ·have d2 : decide (f < t) = false := decide_eq_false h2
    go_wp2_with fail
    go_meet
    exact ⟨by simp [spanB, *], rfl⟩
  ·have d1 : decide (0 ≤ f) = false := decide_eq_false h1
   go_wp2_with fail
   go_meet
   exact ⟨by simp [spanB, *], rfl⟩
 case rest =>
  obtain ⟨rfl, rfl⟩ := hcut
  by_cases hk : k = ⟨#[]⟩
  ·subst hk
   rw [em_nil] at HE
   by_cases ht : t = 0
   ·subst ht
    rw [z_nil] at HE
    by_cases hd : d = ⟨#[]⟩
    ·subst hd
     rw [em_nil] at HE
     go_wp2_with fail
     refine (cH _).mono ?_
     rintro e w' ⟨rfl, rfl⟩
     cases hc : inRg f 0 100000 <;> rw [hc] at HE
     ·go_wp2_with fail
      go_ret
      exact ⟨by rw [HE.out]; first | rfl | simp, HB.out _⟩
     ·go_wp2_with fail
      go_ret
      exact ⟨by rw [HE.out]; first | rfl | simp, HB.out _⟩
    ·obtain ⟨ed1, ed2, ed3, ed4⟩ := em_facts hd
     rw [ed4] at HE
     clear ed4 hd
     go_wp2_with fail
     refine (cH _).mono ?_
     rintro e w' ⟨rfl, rfl⟩
     cases hc : inRg f 0 100000 <;> rw [hc] at HE
     ·go_wp2_with fail
      go_ret
      exact ⟨by rw [HE.out]; first | rfl | simp, HB.out _⟩
     ·go_wp2_with fail
      go_ret
      exact ⟨by rw [HE.out]; first | rfl | simp, HB.out _⟩
   ·obtain ⟨et1, et2, et4⟩ := z_facts ht
    rw [et4] at HE
    clear et4 ht
    by_cases hd : d = ⟨#[]⟩
    ·subst hd
     rw [em_nil] at HE
     go_wp2_with fail
     refine (cH _).mono ?_
     rintro e w' ⟨rfl, rfl⟩
     cases hc : inRg f 0 100000 <;> rw [hc] at HE
     ·go_wp2_with fail
      go_ret
      exact ⟨by rw [HE.out]; first | rfl | simp, HB.out _⟩
     ·go_wp2_with fail
      go_ret
      exact ⟨by rw [HE.out]; first | rfl | simp, HB.out _⟩
    ·obtain ⟨ed1, ed2, ed3, ed4⟩ := em_facts hd
     rw [ed4] at HE
     clear ed4 hd
     go_wp2_with fail
     refine (cH _).mono ?_
     rintro e w' ⟨rfl, rfl⟩
     cases hc : inRg f 0 100000 <;> rw [hc] at HE
     ·go_wp2_with fail
      go_ret
      exact ⟨by rw [HE.out]; first | rfl | simp, HB.out _⟩
     ·go_wp2_with fail
      go_ret
      exact ⟨by rw [HE.out]; first | rfl | simp, HB.out _⟩
  ·obtain ⟨ek1, ek2, ek3, ek4⟩ := em_facts hk
   rw [ek4] at HE
   clear ek4 hk
   by_cases ht : t = 0
   ·subst ht
    rw [z_nil] at HE
    by_cases hd : d = ⟨#[]⟩
    ·subst hd
     rw [em_nil] at HE
     go_wp2_with fail
     refine (cH _).mono ?_
     rintro e w' ⟨rfl, rfl⟩
     cases hc : inRg f 0 100000 <;> rw [hc] at HE
     ·go_wp2_with fail
      go_ret
      exact ⟨by rw [HE.out]; first | rfl | simp, HB.out _⟩
     ·go_wp2_with fail
      go_ret
      exact ⟨by rw [HE.out]; first | rfl | simp, HB.out _⟩
    ·obtain ⟨ed1, ed2, ed3, ed4⟩ := em_facts hd
     rw [ed4] at HE
     clear ed4 hd
     go_wp2_with fail
     refine (cH _).mono ?_
     rintro e w' ⟨rfl, rfl⟩
     cases hc : inRg f 0 100000 <;> rw [hc] at HE
     ·go_wp2_with fail
      go_ret
      exact ⟨by rw [HE.out]; first | rfl | simp, HB.out _⟩
     ·go_wp2_with fail
      go_ret
      exact ⟨by rw [HE.out]; first | rfl | simp, HB.out _⟩
   ·obtain ⟨et1, et2, et4⟩ := z_facts ht
    rw [et4] at HE
    clear et4 ht
    by_cases hd : d = ⟨#[]⟩
    ·subst hd
     rw [em_nil] at HE
     go_wp2_with fail
     refine (cH _).mono ?_
     rintro e w' ⟨rfl, rfl⟩
     cases hc : inRg f 0 100000 <;> rw [hc] at HE
     ·go_wp2_with fail
      go_ret
      exact ⟨by rw [HE.out]; first | rfl | simp, HB.out _⟩
     ·go_wp2_with fail
      go_ret
      exact ⟨by rw [HE.out]; first | rfl | simp, HB.out _⟩
    ·obtain ⟨ed1, ed2, ed3, ed4⟩ := em_facts hd
     rw [ed4] at HE
     clear ed4 hd
     go_wp2_with fail
     refine (cH _).mono ?_
     rintro e w' ⟨rfl, rfl⟩
     cases hc : inRg f 0 100000 <;> rw [hc] at HE
     ·go_wp2_with fail
      go_ret
      exact ⟨by rw [HE.out]; first | rfl | simp, HB.out _⟩
     ·go_wp2_with fail
      go_ret
      exact ⟨by rw [HE.out]; first | rfl | simp, HB.out _⟩
set_option maxHeartbeats 8000000 in
theorem specOpOk_6 (k : ByteArray) (f t : Int) (d : ByteArray) (w : World) (hk : k.size ≤ maxLen) : Calls Tryz.prog 16 #[vOp ⟨6, k, f, t, d⟩] w fun e w' => e = .returned (.bool (opOk ⟨6, k, f, t, d⟩)) ∧ Below w.heap.size w w' := by
 have HE : Hid (opOk ⟨6, k, f, t, d⟩ = (inRg f 0 1099511627776 && emB k && zB t && emB d)) := by unfold Hid opOk; simp
 have HB : Hid (∀ o, Below w.heap.size w ((w.alloc (.cells #[.int .i64 6, .string k, .int .i64 f, .int .i64 t, .string d] 23)).alloc o)) := fun o => ((below_a1 _ _).alloc (by simp) o)
 have cI := inS f 0 1099511627776
 have cH := inS f 0 100000
 have cK := fun wx => specKey k wx hk
 clear hk
 rw [show decide (KOk k) = keyB k from by unfold keyB; first | rfl | congr] at cK
 unfold vOp
 simp only
 go_enter Tryz.func16, Tryz.ntmps16
 go_upto_region 1 with fail
 go_cut [3] from 8 to 22 (fun s3 wc => s3 = .bool (spanB f t) ∧ wc = w.alloc (.cells #[.int .i64 6, .string k, .int .i64 f, .int .i64 t, .string d] 23))
 case first =>
  clear HE HB
  by_cases h1 : 0 ≤ f
  ·by_cases h2 : f < t
   ·by_cases h3 : t ≤ 1099511627776
    ·go_wp2_with fail
     go_meet
     exact ⟨by simp [spanB, *], rfl⟩
    ·have d3 : decide (t ≤ 1099511627776) = false := decide_eq_false h3
     go_wp2_with fail
     go_meet
     exact ⟨by simp [spanB, *], rfl⟩
   ·have d2 : decide (f < t) = false := decide_eq_false h2
    go_wp2_with fail
    go_meet
    exact ⟨by simp [spanB, *], rfl⟩
  ·have d1 : decide (0 ≤ f) = false := decide_eq_false h1
   go_wp2_with fail
   go_meet
   exact ⟨by simp [spanB, *], rfl⟩
 case rest =>
  obtain ⟨rfl, rfl⟩ := hcut
  by_cases hk : k = ⟨#[]⟩
  ·subst hk
   rw [em_nil] at HE
   by_cases ht : t = 0
   ·subst ht
    rw [z_nil] at HE
    by_cases hd : d = ⟨#[]⟩
    ·subst hd
     rw [em_nil] at HE
     go_wp2_with fail
     refine (cI _).mono ?_
     rintro e w' ⟨rfl, rfl⟩
     cases hc : inRg f 0 1099511627776 <;> rw [hc] at HE
     ·go_wp2_with fail
      go_ret
      exact ⟨by rw [HE.out]; first | rfl | simp, HB.out _⟩
     ·go_wp2_with fail
      go_ret
      exact ⟨by rw [HE.out]; first | rfl | simp, HB.out _⟩
    ·obtain ⟨ed1, ed2, ed3, ed4⟩ := em_facts hd
     rw [ed4] at HE
     clear ed4 hd
     go_wp2_with fail
     refine (cI _).mono ?_
     rintro e w' ⟨rfl, rfl⟩
     cases hc : inRg f 0 1099511627776 <;> rw [hc] at HE
     ·go_wp2_with fail
      go_ret
      exact ⟨by rw [HE.out]; first | rfl | simp, HB.out _⟩
     ·go_wp2_with fail
      go_ret
      exact ⟨by rw [HE.out]; first | rfl | simp, HB.out _⟩
   ·obtain ⟨et1, et2, et4⟩ := z_facts ht
    rw [et4] at HE
    clear et4 ht
    by_cases hd : d = ⟨#[]⟩
    ·subst hd
     rw [em_nil] at HE
     go_wp2_with fail
     refine (cI _).mono ?_
     rintro e w' ⟨rfl, rfl⟩
     cases hc : inRg f 0 1099511627776 <;> rw [hc] at HE
     ·go_wp2_with fail
      go_ret
      exact ⟨by rw [HE.out]; first | rfl | simp, HB.out _⟩
     ·go_wp2_with fail
      go_ret
      exact ⟨by rw [HE.out]; first | rfl | simp, HB.out _⟩
    ·obtain ⟨ed1, ed2, ed3, ed4⟩ := em_facts hd
     rw [ed4] at HE
     clear ed4 hd
     go_wp2_with fail
     refine (cI _).mono ?_
     rintro e w' ⟨rfl, rfl⟩
     cases hc : inRg f 0 1099511627776 <;> rw [hc] at HE
     ·go_wp2_with fail
      go_ret
      exact ⟨by rw [HE.out]; first | rfl | simp, HB.out _⟩
     ·go_wp2_with fail
      go_ret
      exact ⟨by rw [HE.out]; first | rfl | simp, HB.out _⟩
  ·obtain ⟨ek1, ek2, ek3, ek4⟩ := em_facts hk
   rw [ek4] at HE
   clear ek4 hk
   by_cases ht : t = 0
   ·subst ht
    rw [z_nil] at HE
    by_cases hd : d = ⟨#[]⟩
    ·subst hd
     rw [em_nil] at HE
     go_wp2_with fail
     refine (cI _).mono ?_
     rintro e w' ⟨rfl, rfl⟩
     cases hc : inRg f 0 1099511627776 <;> rw [hc] at HE
     ·go_wp2_with fail
      go_ret
      exact ⟨by rw [HE.out]; first | rfl | simp, HB.out _⟩
     ·go_wp2_with fail
      go_ret
      exact ⟨by rw [HE.out]; first | rfl | simp, HB.out _⟩
    ·obtain ⟨ed1, ed2, ed3, ed4⟩ := em_facts hd
     rw [ed4] at HE
     clear ed4 hd
     go_wp2_with fail
     refine (cI _).mono ?_
     rintro e w' ⟨rfl, rfl⟩
     cases hc : inRg f 0 1099511627776 <;> rw [hc] at HE
     ·go_wp2_with fail
      go_ret
      exact ⟨by rw [HE.out]; first | rfl | simp, HB.out _⟩
     ·go_wp2_with fail
      go_ret
      exact ⟨by rw [HE.out]; first | rfl | simp, HB.out _⟩
   ·obtain ⟨et1, et2, et4⟩ := z_facts ht
    rw [et4] at HE
    clear et4 ht
    by_cases hd : d = ⟨#[]⟩
    ·subst hd
     rw [em_nil] at HE
     go_wp2_with fail
     refine (cI _).mono ?_
     rintro e w' ⟨rfl, rfl⟩
     cases hc : inRg f 0 1099511627776 <;> rw [hc] at HE
     ·go_wp2_with fail
      go_ret
      exact ⟨by rw [HE.out]; first | rfl | simp, HB.out _⟩
     ·go_wp2_with fail
      go_ret
      exact ⟨by rw [HE.out]; first | rfl | simp, HB.out _⟩
    ·obtain ⟨ed1, ed2, ed3, ed4⟩ := em_facts hd
     rw [ed4] at HE
     clear ed4 hd
     go_wp2_with fail
     refine (cI _).mono ?_
     rintro e w' ⟨rfl, rfl⟩
     cases hc : inRg f 0 1099511627776 <;> rw [hc] at HE
     ·go_wp2_with fail
      go_ret
      exact ⟨by rw [HE.out]; first | rfl | simp, HB.out _⟩
     ·go_wp2_with fail
      go_ret
      exact ⟨by rw [HE.out]; first | rfl | simp, HB.out _⟩
set_option maxHeartbeats 8000000 in
theorem specOpOk_7 (k : ByteArray) (f t : Int) (d : ByteArray) (w : World) (hk : k.size ≤ maxLen) : Calls Tryz.prog 16 #[vOp ⟨7, k, f, t, d⟩] w fun e w' => e = .returned (.bool (opOk ⟨7, k, f, t, d⟩)) ∧ Below w.heap.size w w' := by
 have HE : Hid (opOk ⟨7, k, f, t, d⟩ = (emB k && zB f && zB t && emB d)) := by unfold Hid opOk; simp
 have HB : Hid (∀ o, Below w.heap.size w ((w.alloc (.cells #[.int .i64 7, .string k, .int .i64 f, .int .i64 t, .string d] 23)).alloc o)) := fun o => ((below_a1 _ _).alloc (by simp) o)
 have cI := inS f 0 1099511627776
 have cH := inS f 0 100000
 have cK := fun wx => specKey k wx hk
 clear hk
 rw [show decide (KOk k) = keyB k from by unfold keyB; first | rfl | congr] at cK
 unfold vOp
 simp only
 go_enter Tryz.func16, Tryz.ntmps16
 go_upto_region 1 with fail
 go_cut [3] from 8 to 22 (fun s3 wc => s3 = .bool (spanB f t) ∧ wc = w.alloc (.cells #[.int .i64 7, .string k, .int .i64 f, .int .i64 t, .string d] 23))
 case first =>
  clear HE HB
  by_cases h1 : 0 ≤ f
  ·by_cases h2 : f < t
   ·by_cases h3 : t ≤ 1099511627776
    ·go_wp2_with fail
     go_meet
     exact ⟨by simp [spanB, *], rfl⟩
    ·have d3 : decide (t ≤ 1099511627776) = false := decide_eq_false h3
     go_wp2_with fail
     go_meet
     exact ⟨by simp [spanB, *], rfl⟩
   ·have d2 : decide (f < t) = false := decide_eq_false h2
    go_wp2_with fail
    go_meet
    exact ⟨by simp [spanB, *], rfl⟩
  ·have d1 : decide (0 ≤ f) = false := decide_eq_false h1
   go_wp2_with fail
   go_meet
   exact ⟨by simp [spanB, *], rfl⟩
 case rest =>
  obtain ⟨rfl, rfl⟩ := hcut
  by_cases hk : k = ⟨#[]⟩
  ·subst hk
   rw [em_nil] at HE
   by_cases hf : f = 0
   ·subst hf
    rw [z_nil] at HE
    by_cases ht : t = 0
    ·subst ht
     rw [z_nil] at HE
     by_cases hd : d = ⟨#[]⟩
     ·subst hd
      rw [em_nil] at HE
      go_wp2_with fail
      go_ret
      exact ⟨by rw [HE.out]; first | rfl | simp, HB.out _⟩
     ·obtain ⟨ed1, ed2, ed3, ed4⟩ := em_facts hd
      rw [ed4] at HE
      clear ed4 hd
      go_wp2_with fail
      go_ret
      exact ⟨by rw [HE.out]; first | rfl | simp, HB.out _⟩
    ·obtain ⟨et1, et2, et4⟩ := z_facts ht
     rw [et4] at HE
     clear et4 ht
     by_cases hd : d = ⟨#[]⟩
     ·subst hd
      rw [em_nil] at HE
      go_wp2_with fail
      go_ret
      exact ⟨by rw [HE.out]; first | rfl | simp, HB.out _⟩
     ·obtain ⟨ed1, ed2, ed3, ed4⟩ := em_facts hd
      rw [ed4] at HE
      clear ed4 hd
      go_wp2_with fail
      go_ret
      exact ⟨by rw [HE.out]; first | rfl | simp, HB.out _⟩
   ·obtain ⟨ef1, ef2, ef4⟩ := z_facts hf
    rw [ef4] at HE
    clear ef4 hf
    by_cases ht : t = 0
    ·subst ht
     rw [z_nil] at HE
     by_cases hd : d = ⟨#[]⟩
     ·subst hd
      rw [em_nil] at HE
      go_wp2_with fail
      go_ret
      exact ⟨by rw [HE.out]; first | rfl | simp, HB.out _⟩
     ·obtain ⟨ed1, ed2, ed3, ed4⟩ := em_facts hd
      rw [ed4] at HE
      clear ed4 hd
      go_wp2_with fail
      go_ret
      exact ⟨by rw [HE.out]; first | rfl | simp, HB.out _⟩
    ·obtain ⟨et1, et2, et4⟩ := z_facts ht
     rw [et4] at HE
     clear et4 ht
     by_cases hd : d = ⟨#[]⟩
     ·subst hd
      rw [em_nil] at HE
      go_wp2_with fail
      go_ret
      exact ⟨by rw [HE.out]; first | rfl | simp, HB.out _⟩
     ·obtain ⟨ed1, ed2, ed3, ed4⟩ := em_facts hd
      rw [ed4] at HE
      clear ed4 hd
      go_wp2_with fail
      go_ret
      exact ⟨by rw [HE.out]; first | rfl | simp, HB.out _⟩
  ·obtain ⟨ek1, ek2, ek3, ek4⟩ := em_facts hk
   rw [ek4] at HE
   clear ek4 hk
   by_cases hf : f = 0
   ·subst hf
    rw [z_nil] at HE
    by_cases ht : t = 0
    ·subst ht
     rw [z_nil] at HE
     by_cases hd : d = ⟨#[]⟩
     ·subst hd
      rw [em_nil] at HE
      go_wp2_with fail
      go_ret
      exact ⟨by rw [HE.out]; first | rfl | simp, HB.out _⟩
     ·obtain ⟨ed1, ed2, ed3, ed4⟩ := em_facts hd
      rw [ed4] at HE
      clear ed4 hd
      go_wp2_with fail
      go_ret
      exact ⟨by rw [HE.out]; first | rfl | simp, HB.out _⟩
    ·obtain ⟨et1, et2, et4⟩ := z_facts ht
     rw [et4] at HE
     clear et4 ht
     by_cases hd : d = ⟨#[]⟩
     ·subst hd
      rw [em_nil] at HE
      go_wp2_with fail
      go_ret
      exact ⟨by rw [HE.out]; first | rfl | simp, HB.out _⟩
     ·obtain ⟨ed1, ed2, ed3, ed4⟩ := em_facts hd
      rw [ed4] at HE
      clear ed4 hd
      go_wp2_with fail
      go_ret
      exact ⟨by rw [HE.out]; first | rfl | simp, HB.out _⟩
   ·obtain ⟨ef1, ef2, ef4⟩ := z_facts hf
    rw [ef4] at HE
    clear ef4 hf
    by_cases ht : t = 0
    ·subst ht
     rw [z_nil] at HE
     by_cases hd : d = ⟨#[]⟩
     ·subst hd
      rw [em_nil] at HE
      go_wp2_with fail
      go_ret
      exact ⟨by rw [HE.out]; first | rfl | simp, HB.out _⟩
     ·obtain ⟨ed1, ed2, ed3, ed4⟩ := em_facts hd
      rw [ed4] at HE
      clear ed4 hd
      go_wp2_with fail
      go_ret
      exact ⟨by rw [HE.out]; first | rfl | simp, HB.out _⟩
    ·obtain ⟨et1, et2, et4⟩ := z_facts ht
     rw [et4] at HE
     clear et4 ht
     by_cases hd : d = ⟨#[]⟩
     ·subst hd
      rw [em_nil] at HE
      go_wp2_with fail
      go_ret
      exact ⟨by rw [HE.out]; first | rfl | simp, HB.out _⟩
     ·obtain ⟨ed1, ed2, ed3, ed4⟩ := em_facts hd
      rw [ed4] at HE
      clear ed4 hd
      go_wp2_with fail
      go_ret
      exact ⟨by rw [HE.out]; first | rfl | simp, HB.out _⟩
set_option maxHeartbeats 8000000 in
theorem specOpOk_5 (k : ByteArray) (f t : Int) (d : ByteArray) (w : World) (hk : k.size ≤ maxLen) : Calls Tryz.prog 16 #[vOp ⟨5, k, f, t, d⟩] w fun e w' => e = .returned (.bool (opOk ⟨5, k, f, t, d⟩)) ∧ Below w.heap.size w w' := by
 have HE : Hid (opOk ⟨5, k, f, t, d⟩ = (keyB k && spanB f t && emB d)) := by unfold Hid opOk; simp
 have HB : Hid (∀ o, Below w.heap.size w ((w.alloc (.cells #[.int .i64 5, .string k, .int .i64 f, .int .i64 t, .string d] 23)).alloc o)) := fun o => ((below_a1 _ _).alloc (by simp) o)
 have cI := inS f 0 1099511627776
 have cH := inS f 0 100000
 have cK := fun wx => specKey k wx hk
 clear hk
 rw [show decide (KOk k) = keyB k from by unfold keyB; first | rfl | congr] at cK
 unfold vOp
 simp only
 go_enter Tryz.func16, Tryz.ntmps16
 go_upto_region 1 with fail
 go_cut [3] from 8 to 22 (fun s3 wc => s3 = .bool (spanB f t) ∧ wc = w.alloc (.cells #[.int .i64 5, .string k, .int .i64 f, .int .i64 t, .string d] 23))
 case first =>
  clear HE HB
  by_cases h1 : 0 ≤ f
  ·by_cases h2 : f < t
   ·by_cases h3 : t ≤ 1099511627776
    ·go_wp2_with fail
     go_meet
     exact ⟨by simp [spanB, *], rfl⟩
    ·have d3 : decide (t ≤ 1099511627776) = false := decide_eq_false h3
     go_wp2_with fail
     go_meet
     exact ⟨by simp [spanB, *], rfl⟩
   ·have d2 : decide (f < t) = false := decide_eq_false h2
    go_wp2_with fail
    go_meet
    exact ⟨by simp [spanB, *], rfl⟩
  ·have d1 : decide (0 ≤ f) = false := decide_eq_false h1
   go_wp2_with fail
   go_meet
   exact ⟨by simp [spanB, *], rfl⟩
 case rest =>
  obtain ⟨rfl, rfl⟩ := hcut
  by_cases hd : d = ⟨#[]⟩
  ·subst hd
   rw [em_nil] at HE
   cases hs : spanB f t <;> rw [hs] at HE <;> cases hc : keyB k <;> rw [hc] at HE cK
   ·go_wp2_with fail
    refine (cK _).mono ?_
    rintro e w' ⟨rfl, rfl⟩
    go_wp2_with fail
    go_ret
    exact ⟨by rw [HE.out]; first | rfl | simp, HB.out _⟩
   ·go_wp2_with fail
    refine (cK _).mono ?_
    rintro e w' ⟨rfl, rfl⟩
    go_wp2_with fail
    go_ret
    exact ⟨by rw [HE.out]; first | rfl | simp, HB.out _⟩
   ·go_wp2_with fail
    refine (cK _).mono ?_
    rintro e w' ⟨rfl, rfl⟩
    go_wp2_with fail
    go_ret
    exact ⟨by rw [HE.out]; first | rfl | simp, HB.out _⟩
   ·go_wp2_with fail
    refine (cK _).mono ?_
    rintro e w' ⟨rfl, rfl⟩
    go_wp2_with fail
    go_ret
    exact ⟨by rw [HE.out]; first | rfl | simp, HB.out _⟩
  ·obtain ⟨ed1, ed2, ed3, ed4⟩ := em_facts hd
   rw [ed4] at HE
   clear ed4 hd
   cases hs : spanB f t <;> rw [hs] at HE <;> cases hc : keyB k <;> rw [hc] at HE cK
   ·go_wp2_with fail
    refine (cK _).mono ?_
    rintro e w' ⟨rfl, rfl⟩
    go_wp2_with fail
    go_ret
    exact ⟨by rw [HE.out]; first | rfl | simp, HB.out _⟩
   ·go_wp2_with fail
    refine (cK _).mono ?_
    rintro e w' ⟨rfl, rfl⟩
    go_wp2_with fail
    go_ret
    exact ⟨by rw [HE.out]; first | rfl | simp, HB.out _⟩
   ·go_wp2_with fail
    refine (cK _).mono ?_
    rintro e w' ⟨rfl, rfl⟩
    go_wp2_with fail
    go_ret
    exact ⟨by rw [HE.out]; first | rfl | simp, HB.out _⟩
   ·go_wp2_with fail
    refine (cK _).mono ?_
    rintro e w' ⟨rfl, rfl⟩
    go_wp2_with fail
    go_ret
    exact ⟨by rw [HE.out]; first | rfl | simp, HB.out _⟩
set_option maxHeartbeats 8000000 in
theorem specOpOk_4 (k : ByteArray) (f t : Int) (d : ByteArray) (w : World) (hk : k.size ≤ maxLen) (hd : d.size ≤ 1048576) : Calls Tryz.prog 16 #[vOp ⟨4, k, f, t, d⟩] w fun e w' => e = .returned (.bool (opOk ⟨4, k, f, t, d⟩)) ∧ Below w.heap.size w w' := by
 have HE : Hid (opOk ⟨4, k, f, t, d⟩ = (keyB k && rdB d && zB f && zB t)) := by unfold Hid opOk; simp
 have HB : Hid True := trivial
 obtain ⟨X, hX⟩ : ∃ X, X = (w.alloc (.cells #[.int .i64 4, .string k, .int .i64 f, .int .i64 t, .string d] 23)).alloc (.cells #[.int .i64 4, .string k, .int .i64 0, .int .i64 0, .string d] 23) := ⟨_, rfl⟩
 have HBX : Hid (Below w.heap.size w X) := by rw [hX]; exact (below_a1 _ _).alloc (by simp) _
 have hY := CellO.new w ⟨4, k, f, t, d⟩ 23
 have KX : Hid (CellO X w.heap.size ⟨4, k, f, t, d⟩) := by rw [hX]; exact hY.on (below_a1 _ _) hY.2
 have KZ : Hid (CellO X (w.heap.size + 1) ⟨4, k, 0, 0, d⟩) := by
  have h := CellO.new (w.alloc (.cells #[.int .i64 4, .string k, .int .i64 f, .int .i64 t, .string d] 23)) ⟨4, k, 0, 0, d⟩ 23
  unfold Hid
  rw [hX]
  simpa using h
 clear hY
 have cR := specReadBlock d X hd
 have cK := fun wx => specKey k wx hk
 clear hk hd
 rw [show decide (KOk k) = keyB k from by unfold keyB; first | rfl | congr] at cK
 unfold vOp
 simp only
 go_enter Tryz.func16, Tryz.ntmps16
 go_upto_region 1 with fail
 go_cut [3] from 8 to 22 (fun s3 wc => s3 = .bool (spanB f t) ∧ wc = w.alloc (.cells #[.int .i64 4, .string k, .int .i64 f, .int .i64 t, .string d] 23))
 case first =>
  clear HE HB
  by_cases h1 : 0 ≤ f
  ·by_cases h2 : f < t
   ·by_cases h3 : t ≤ 1099511627776
    ·go_wp2_with fail
     go_meet
     exact ⟨by simp [spanB, *], rfl⟩
    ·have d3 : decide (t ≤ 1099511627776) = false := decide_eq_false h3
     go_wp2_with fail
     go_meet
     exact ⟨by simp [spanB, *], rfl⟩
   ·have d2 : decide (f < t) = false := decide_eq_false h2
    go_wp2_with fail
    go_meet
    exact ⟨by simp [spanB, *], rfl⟩
  ·have d1 : decide (0 ≤ f) = false := decide_eq_false h1
   go_wp2_with fail
   go_meet
   exact ⟨by simp [spanB, *], rfl⟩
 case rest =>
  obtain ⟨rfl, rfl⟩ := hcut
  go_wp2_with fail
  rw [← hX]
  clear hX
  refine cR.mono ?_
  rintro e w1 ⟨⟨u, l, ok, hA, rfl, hO⟩, hb⟩
  have hr := rdB_is hA
  rw [hr] at HE
  have HB : Hid (Below w.heap.size w w1) := HBX.out.trans (hb.mono HBX.out.size)
  obtain ⟨⟨g0, g1, g2, g3, g4⟩, _⟩ := KX.out.on hb KX.out.2
  obtain ⟨⟨y0, y1, y2, y3, y4⟩, _⟩ := KZ.out.on hb KZ.out.2
  simp only at g0 g1 g2 g3 g4 y0 y1 y2 y3 y4
  obtain ⟨Au, mu, cu, rfl⟩ := hO.shape
  clear hA hO hb hr cR KX KZ
  by_cases hf : f = 0
  ·subst hf
   rw [z_nil] at HE
   by_cases ht : t = 0
   ·subst ht
    rw [z_nil] at HE
    cases ok <;> cases hc : keyB k <;> rw [hc] at HE cK
    ·go_wp2_with fail
     refine (cK _).mono ?_
     rintro e w' ⟨rfl, rfl⟩
     go_wp2_with fail
     go_ret
     exact ⟨by rw [HE.out]; first | rfl | simp, HB.out⟩
    ·go_wp2_with fail
     refine (cK _).mono ?_
     rintro e w' ⟨rfl, rfl⟩
     go_wp2_with fail
     go_ret
     exact ⟨by rw [HE.out]; first | rfl | simp, HB.out⟩
    ·go_wp2_with fail
     refine (cK _).mono ?_
     rintro e w' ⟨rfl, rfl⟩
     go_wp2_with fail
     go_ret
     exact ⟨by rw [HE.out]; first | rfl | simp, HB.out⟩
    ·go_wp2_with fail
     refine (cK _).mono ?_
     rintro e w' ⟨rfl, rfl⟩
     go_wp2_with fail
     go_ret
     exact ⟨by rw [HE.out]; first | rfl | simp, HB.out⟩
   ·obtain ⟨et1, et2, et4⟩ := z_facts ht
    rw [et4] at HE
    clear et4 ht
    cases ok <;> cases hc : keyB k <;> rw [hc] at HE cK
    ·go_wp2_with fail
     refine (cK _).mono ?_
     rintro e w' ⟨rfl, rfl⟩
     go_wp2_with fail
     go_ret
     exact ⟨by rw [HE.out]; first | rfl | simp, HB.out⟩
    ·go_wp2_with fail
     refine (cK _).mono ?_
     rintro e w' ⟨rfl, rfl⟩
     go_wp2_with fail
     go_ret
     exact ⟨by rw [HE.out]; first | rfl | simp, HB.out⟩
    ·go_wp2_with fail
     refine (cK _).mono ?_
     rintro e w' ⟨rfl, rfl⟩
     go_wp2_with fail
     go_ret
     exact ⟨by rw [HE.out]; first | rfl | simp, HB.out⟩
    ·go_wp2_with fail
     refine (cK _).mono ?_
     rintro e w' ⟨rfl, rfl⟩
     go_wp2_with fail
     go_ret
     exact ⟨by rw [HE.out]; first | rfl | simp, HB.out⟩
  ·obtain ⟨ef1, ef2, ef4⟩ := z_facts hf
   rw [ef4] at HE
   clear ef4 hf
   by_cases ht : t = 0
   ·subst ht
    rw [z_nil] at HE
    cases ok <;> cases hc : keyB k <;> rw [hc] at HE cK
    ·go_wp2_with fail
     refine (cK _).mono ?_
     rintro e w' ⟨rfl, rfl⟩
     go_wp2_with fail
     go_ret
     exact ⟨by rw [HE.out]; first | rfl | simp, HB.out⟩
    ·go_wp2_with fail
     refine (cK _).mono ?_
     rintro e w' ⟨rfl, rfl⟩
     go_wp2_with fail
     go_ret
     exact ⟨by rw [HE.out]; first | rfl | simp, HB.out⟩
    ·go_wp2_with fail
     refine (cK _).mono ?_
     rintro e w' ⟨rfl, rfl⟩
     go_wp2_with fail
     go_ret
     exact ⟨by rw [HE.out]; first | rfl | simp, HB.out⟩
    ·go_wp2_with fail
     refine (cK _).mono ?_
     rintro e w' ⟨rfl, rfl⟩
     go_wp2_with fail
     go_ret
     exact ⟨by rw [HE.out]; first | rfl | simp, HB.out⟩
   ·obtain ⟨et1, et2, et4⟩ := z_facts ht
    rw [et4] at HE
    clear et4 ht
    cases ok <;> cases hc : keyB k <;> rw [hc] at HE cK
    ·go_wp2_with fail
     refine (cK _).mono ?_
     rintro e w' ⟨rfl, rfl⟩
     go_wp2_with fail
     go_ret
     exact ⟨by rw [HE.out]; first | rfl | simp, HB.out⟩
    ·go_wp2_with fail
     refine (cK _).mono ?_
     rintro e w' ⟨rfl, rfl⟩
     go_wp2_with fail
     go_ret
     exact ⟨by rw [HE.out]; first | rfl | simp, HB.out⟩
    ·go_wp2_with fail
     refine (cK _).mono ?_
     rintro e w' ⟨rfl, rfl⟩
     go_wp2_with fail
     go_ret
     exact ⟨by rw [HE.out]; first | rfl | simp, HB.out⟩
    ·go_wp2_with fail
     refine (cK _).mono ?_
     rintro e w' ⟨rfl, rfl⟩
     go_wp2_with fail
     go_ret
     exact ⟨by rw [HE.out]; first | rfl | simp, HB.out⟩
set_option maxHeartbeats 8000000 in
theorem specOpOk_no (x : Opx) (w : World) (h : x.kind ≠ 1 ∧ x.kind ≠ 2 ∧ x.kind ≠ 3 ∧ x.kind ≠ 4 ∧ x.kind ≠ 5 ∧ x.kind ≠ 6 ∧ x.kind ≠ 7) : Calls Tryz.prog 16 #[vOp x] w fun e w' => e = .returned (.bool (opOk x)) ∧ Below w.heap.size w w' := by
 obtain ⟨n, k, f, t, d⟩ := x
 simp only at h
 obtain ⟨h1, h2, h3, h4, h5, h6, h7⟩ := h
 have HE : Hid (opOk ⟨n, k, f, t, d⟩ = false) := by unfold Hid opOk; simp [h1, h2, h3, h4, h5, h6, h7]
 have HB : Hid (∀ o, Below w.heap.size w ((w.alloc (.cells #[.int .i64 n, .string k, .int .i64 f, .int .i64 t, .string d] 23)).alloc o)) := fun o => ((below_a1 _ _).alloc (by simp) o)
 have z1 : (n == 1) = false := by simpa using h1
 have z2 : (n == 2) = false := by simpa using h2
 have z3 : (n == 3) = false := by simpa using h3
 have z4 : (n == 4) = false := by simpa using h4
 have z5 : (n == 5) = false := by simpa using h5
 have z6 : (n == 6) = false := by simpa using h6
 have z7 : (n == 7) = false := by simpa using h7
 clear h1 h2 h3 h4 h5 h6 h7
 unfold vOp
 simp only
 go_enter Tryz.func16, Tryz.ntmps16
 go_upto_region 1 with fail
 go_cut [3] from 8 to 22 (fun s3 wc => s3 = .bool (spanB f t) ∧ wc = w.alloc (.cells #[.int .i64 n, .string k, .int .i64 f, .int .i64 t, .string d] 23))
 case first =>
  clear HE HB
  by_cases h1 : 0 ≤ f
  ·by_cases h2 : f < t
   ·by_cases h3 : t ≤ 1099511627776
    ·go_wp2_with fail
     go_meet
     exact ⟨by simp [spanB, *], rfl⟩
    ·have d3 : decide (t ≤ 1099511627776) = false := decide_eq_false h3
     go_wp2_with fail
     go_meet
     exact ⟨by simp [spanB, *], rfl⟩
   ·have d2 : decide (f < t) = false := decide_eq_false h2
    go_wp2_with fail
    go_meet
    exact ⟨by simp [spanB, *], rfl⟩
  ·have d1 : decide (0 ≤ f) = false := decide_eq_false h1
   go_wp2_with fail
   go_meet
   exact ⟨by simp [spanB, *], rfl⟩
 case rest =>
  obtain ⟨rfl, rfl⟩ := hcut
  go_wp2_with fail
  go_ret
  exact ⟨by rw [HE.out]; first | rfl | simp, HB.out _⟩
theorem specOpOk (x : Opx) (w : World) (hk : x.key.size ≤ maxLen) (hd : x.data.size ≤ 1048576) : Calls Tryz.prog 16 #[vOp x] w fun e w' => e = .returned (.bool (opOk x)) ∧ Below w.heap.size w w' := by
 by_cases h : x.kind ≠ 1 ∧ x.kind ≠ 2 ∧ x.kind ≠ 3 ∧ x.kind ≠ 4 ∧ x.kind ≠ 5 ∧ x.kind ≠ 6 ∧ x.kind ≠ 7
 ·exact specOpOk_no x w h
 ·obtain ⟨n, k, f, t, d⟩ := x
  simp only at h hk hd
  have : n = 1 ∨ n = 2 ∨ n = 3 ∨ n = 4 ∨ n = 5 ∨ n = 6 ∨ n = 7 := by omega
  rcases this with rfl | rfl | rfl | rfl | rfl | rfl | rfl
  ·exact specOpOk_1 k f t d w hk
  ·exact specOpOk_2 k f t d w hk
  ·exact specOpOk_3 k f t d w hk
  ·exact specOpOk_4 k f t d w hk hd
  ·exact specOpOk_5 k f t d w hk
  ·exact specOpOk_6 k f t d w hk
  ·exact specOpOk_7 k f t d w hk
end Go.Proofs.YtgbepickfhbknaaGreatDoor
