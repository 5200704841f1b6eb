/- OpI CmMath CmRes CmPart -/
import Derived.Test.YtgbepickfhbknaaGreatDoorRows
import Derived.Test.YtgbepickfhbknaaGreatDoorQr4
import Derived.Test.YtgbepickfhbknaaGreatDoorQr6
import Derived.WalkKit
import Derived.ProofKit
import Derived.OpenShut
import Derived.Below
import Derived.WalkSmall
import Derived.WalkLawsBesides
import Derived.Outline
import Derived.BigQuiet
import Derived.Deep.QuietTactic
import Derived.Handy
import Derived.Deep.Cut
import Derived.Deep.CutRange
import Derived.Laws.StructEq
import Derived.Test.YtgbepickfhbknaaGreatDoorQr0
import Derived.Test.YtgbepickfhbknaaGreatDoorQr1
import Derived.Test.YtgbepickfhbknaaGreatDoorQr3
import Derived.Laws.DeepStrings4
import Derived.Defers
import Derived.Recover
namespace Go.Proofs.YtgbepickfhbknaaGreatDoor
open Go.ChangeShapes Go.WideShapes Go.ChangeAt Go.RowKit Go.PlainAid
set_option linter.unusedVariables false
set_option maxHeartbeats 4000000 in
theorem implOpOk_1 (k : ByteArray) (f t : Int) (d : ByteArray) (w : World) (hk : k.size ≤ maxLen) : Calls Tryz.prog 29 #[vOp ⟨1, k, f, t, d⟩] w fun e w' => e = .returned (.bool (opOk ⟨1, k, f, t, d⟩)) ∧ Below w.heap.size w w' := by
 have HE : Hid (opOk ⟨1, k, f, t, d⟩ = (spanB f t && emB k && emB d)) := by unfold Hid opOk; simp
 have HB : Hid (Below w.heap.size w (w.alloc (.cells #[.int .i64 1, .string k, .int .i64 f, .int .i64 t, .string d] 23))) := below_a1 _ _
 have cS := implSpanOk f t
 have cI := inI f 0 1099511627776
 have cH := inI f 0 100000
 have cK := fun wx => implIsKey k wx hk
 clear hk
 rw [show decide (KOk k) = keyB k from by unfold keyB; first | rfl | congr] at cK
 unfold vOp
 simp only
 by_cases hk : k = ⟨#[]⟩
 ·subst hk
  rw [em_nil] at HE
  by_cases hd : d = ⟨#[]⟩
  ·subst hd
   rw [em_nil] at HE
   go_enter Tryz.func29, Tryz.ntmps29
   go_wp2_with fail
   refine (cS _).mono ?_
   rintro e w' ⟨rfl, rfl⟩
   go_wp2_with fail
   go_ret
   exact ⟨by rw [HE.out]; first | rfl | simp, HB.out⟩
  ·obtain ⟨ed1, ed2, ed3, ed4⟩ := em_facts hd
   rw [ed4] at HE
   clear ed4 hd
   go_enter Tryz.func29, Tryz.ntmps29
   go_wp2_with fail
   go_ret
   exact ⟨by rw [HE.out]; first | rfl | simp, HB.out⟩
 ·obtain ⟨ek1, ek2, ek3, ek4⟩ := em_facts hk
  rw [ek4] at HE
  clear ek4 hk
  by_cases hd : d = ⟨#[]⟩
  ·subst hd
   rw [em_nil] at HE
   go_enter Tryz.func29, Tryz.ntmps29
   go_wp2_with fail
   go_ret
   exact ⟨by rw [HE.out]; first | rfl | simp, HB.out⟩
  ·obtain ⟨ed1, ed2, ed3, ed4⟩ := em_facts hd
   rw [ed4] at HE
   clear ed4 hd
   go_enter Tryz.func29, Tryz.ntmps29
   go_wp2_with fail
   go_ret
   exact ⟨by rw [HE.out]; first | rfl | simp, HB.out⟩
set_option maxHeartbeats 4000000 in
theorem implOpOk_2 (k : ByteArray) (f t : Int) (d : ByteArray) (w : World) (hk : k.size ≤ maxLen) : Calls Tryz.prog 29 #[vOp ⟨2, k, f, t, d⟩] w fun e w' => e = .returned (.bool (opOk ⟨2, k, f, t, d⟩)) ∧ Below w.heap.size w w' := by
 have HE : Hid (opOk ⟨2, k, f, t, d⟩ = (inRg f 0 1099511627776 && emB k && zB t && emB d)) := by unfold Hid opOk; simp
 have HB : Hid (Below w.heap.size w (w.alloc (.cells #[.int .i64 2, .string k, .int .i64 f, .int .i64 t, .string d] 23))) := below_a1 _ _
 have cS := implSpanOk f t
 have cI := inI f 0 1099511627776
 have cH := inI f 0 100000
 have cK := fun wx => implIsKey k wx hk
 clear hk
 rw [show decide (KOk k) = keyB k from by unfold keyB; first | rfl | congr] at cK
 unfold vOp
 simp only
 by_cases hk : k = ⟨#[]⟩
 ·subst hk
  rw [em_nil] at HE
  by_cases ht : t = 0
  ·subst ht
   rw [z_nil] at HE
   by_cases hd : d = ⟨#[]⟩
   ·subst hd
    rw [em_nil] at HE
    go_enter Tryz.func29, Tryz.ntmps29
    go_wp2_with fail
    refine (cI _).mono ?_
    rintro e w' ⟨rfl, rfl⟩
    go_wp2_with fail
    go_ret
    exact ⟨by rw [HE.out]; first | rfl | simp, HB.out⟩
   ·obtain ⟨ed1, ed2, ed3, ed4⟩ := em_facts hd
    rw [ed4] at HE
    clear ed4 hd
    go_enter Tryz.func29, Tryz.ntmps29
    go_wp2_with fail
    go_ret
    exact ⟨by rw [HE.out]; first | rfl | simp, HB.out⟩
  ·obtain ⟨et1, et2, et4⟩ := z_facts ht
   rw [et4] at HE
   clear et4 ht
   by_cases hd : d = ⟨#[]⟩
   ·subst hd
    rw [em_nil] at HE
    go_enter Tryz.func29, Tryz.ntmps29
    go_wp2_with fail
    go_ret
    exact ⟨by rw [HE.out]; first | rfl | simp, HB.out⟩
   ·obtain ⟨ed1, ed2, ed3, ed4⟩ := em_facts hd
    rw [ed4] at HE
    clear ed4 hd
    go_enter Tryz.func29, Tryz.ntmps29
    go_wp2_with fail
    go_ret
    exact ⟨by rw [HE.out]; first | rfl | simp, HB.out⟩
 ·obtain ⟨ek1, ek2, ek3, ek4⟩ := em_facts hk
  rw [ek4] at HE
  clear ek4 hk
  by_cases ht : t = 0
  ·subst ht
   rw [z_nil] at HE
   by_cases hd : d = ⟨#[]⟩
   ·subst hd
    rw [em_nil] at HE
    go_enter Tryz.func29, Tryz.ntmps29
    go_wp2_with fail
    go_ret
    exact ⟨by rw [HE.out]; first | rfl | simp, HB.out⟩
   ·obtain ⟨ed1, ed2, ed3, ed4⟩ := em_facts hd
    rw [ed4] at HE
    clear ed4 hd
    go_enter Tryz.func29, Tryz.ntmps29
    go_wp2_with fail
    go_ret
    exact ⟨by rw [HE.out]; first | rfl | simp, HB.out⟩
  ·obtain ⟨et1, et2, et4⟩ := z_facts ht
   rw [et4] at HE
   clear et4 ht
   by_cases hd : d = ⟨#[]⟩
   ·subst hd
    rw [em_nil] at HE
    go_enter Tryz.func29, Tryz.ntmps29
    go_wp2_with fail
    go_ret
    exact ⟨by rw [HE.out]; first | rfl | simp, HB.out⟩
   ·obtain ⟨ed1, ed2, ed3, ed4⟩ := em_facts hd
    rw [ed4] at HE
    clear ed4 hd
    go_enter Tryz.func29, Tryz.ntmps29
    go_wp2_with fail
    go_ret
    exact ⟨by rw [HE.out]; first | rfl | simp, HB.out⟩
set_option maxHeartbeats 4000000 in
theorem implOpOk_3 (k : ByteArray) (f t : Int) (d : ByteArray) (w : World) (hk : k.size ≤ maxLen) : Calls Tryz.prog 29 #[vOp ⟨3, k, f, t, d⟩] w fun e w' => e = .returned (.bool (opOk ⟨3, k, f, t, d⟩)) ∧ Below w.heap.size w w' := by
 have HE : Hid (opOk ⟨3, k, f, t, d⟩ = (inRg f 0 100000 && emB k && zB t && emB d)) := by unfold Hid opOk; simp
 have HB : Hid (Below w.heap.size w (w.alloc (.cells #[.int .i64 3, .string k, .int .i64 f, .int .i64 t, .string d] 23))) := below_a1 _ _
 have cS := implSpanOk f t
 have cI := inI f 0 1099511627776
 have cH := inI f 0 100000
 have cK := fun wx => implIsKey k wx hk
 clear hk
 rw [show decide (KOk k) = keyB k from by unfold keyB; first | rfl | congr] at cK
 unfold vOp
 simp only
 by_cases hk : k = ⟨#[]⟩
 ·subst hk
  rw [em_nil] at HE
  by_cases ht : t = 0
  ·subst ht
   rw [z_nil] at HE
   by_cases hd : d = ⟨#[]⟩
   ·subst hd
    rw [em_nil] at HE
    go_enter Tryz.func29, Tryz.ntmps29
    go_wp2_with fail
    refine (cH _).mono ?_
    rintro e w' ⟨rfl, rfl⟩
    go_wp2_with fail
    go_ret
    exact ⟨by rw [HE.out]; first | rfl | simp, HB.out⟩
   ·obtain ⟨ed1, ed2, ed3, ed4⟩ := em_facts hd
    rw [ed4] at HE
    clear ed4 hd
    go_enter Tryz.func29, Tryz.ntmps29
    go_wp2_with fail
    go_ret
    exact ⟨by rw [HE.out]; first | rfl | simp, HB.out⟩
  ·obtain ⟨et1, et2, et4⟩ := z_facts ht
   rw [et4] at HE
   clear et4 ht
   by_cases hd : d = ⟨#[]⟩
   ·subst hd
    rw [em_nil] at HE
    go_enter Tryz.func29, Tryz.ntmps29
    go_wp2_with fail
    go_ret
    exact ⟨by rw [HE.out]; first | rfl | simp, HB.out⟩
   ·obtain ⟨ed1, ed2, ed3, ed4⟩ := em_facts hd
    rw [ed4] at HE
    clear ed4 hd
    go_enter Tryz.func29, Tryz.ntmps29
    go_wp2_with fail
    go_ret
    exact ⟨by rw [HE.out]; first | rfl | simp, HB.out⟩
 ·obtain ⟨ek1, ek2, ek3, ek4⟩ := em_facts hk
  rw [ek4] at HE
  clear ek4 hk
  by_cases ht : t = 0
  ·subst ht
   rw [z_nil] at HE
   by_cases hd : d = ⟨#[]⟩
   ·subst hd
    rw [em_nil] at HE
    go_enter Tryz.func29, Tryz.ntmps29
    go_wp2_with fail
    go_ret
    exact ⟨by rw [HE.out]; first | rfl | simp, HB.out⟩
   ·obtain ⟨ed1, ed2, ed3, ed4⟩ := em_facts hd
    rw [ed4] at HE
    clear ed4 hd
    go_enter Tryz.func29, Tryz.ntmps29
    go_wp2_with fail
    go_ret
    exact ⟨by rw [HE.out]; first | rfl | simp, HB.out⟩
  ·obtain ⟨et1, et2, et4⟩ := z_facts ht
   rw [et4] at HE
   clear et4 ht
   by_cases hd : d = ⟨#[]⟩
   ·subst hd
    rw [em_nil] at HE
    go_enter Tryz.func29, Tryz.ntmps29
    go_wp2_with fail
    go_ret
    exact ⟨by rw [HE.out]; first | rfl | simp, HB.out⟩
   ·obtain ⟨ed1, ed2, ed3, ed4⟩ := em_facts hd
    rw [ed4] at HE
    clear ed4 hd
    go_enter Tryz.func29, Tryz.ntmps29
    go_wp2_with fail
    go_ret
    exact ⟨by rw [HE.out]; first | rfl | simp, HB.out⟩
set_option maxHeartbeats 4000000 in
theorem implOpOk_6 (k : ByteArray) (f t : Int) (d : ByteArray) (w : World) (hk : k.size ≤ maxLen) : Calls Tryz.prog 29 #[vOp ⟨6, k, f, t, d⟩] w fun e w' => e = .returned (.bool (opOk ⟨6, k, f, t, d⟩)) ∧ Below w.heap.size w w' := by
 have HE : Hid (opOk ⟨6, k, f, t, d⟩ = (inRg f 0 1099511627776 && emB k && zB t && emB d)) := by unfold Hid opOk; simp
 have HB : Hid (Below w.heap.size w (w.alloc (.cells #[.int .i64 6, .string k, .int .i64 f, .int .i64 t, .string d] 23))) := below_a1 _ _
 have cS := implSpanOk f t
 have cI := inI f 0 1099511627776
 have cH := inI f 0 100000
 have cK := fun wx => implIsKey k wx hk
 clear hk
 rw [show decide (KOk k) = keyB k from by unfold keyB; first | rfl | congr] at cK
 unfold vOp
 simp only
 by_cases hk : k = ⟨#[]⟩
 ·subst hk
  rw [em_nil] at HE
  by_cases ht : t = 0
  ·subst ht
   rw [z_nil] at HE
   by_cases hd : d = ⟨#[]⟩
   ·subst hd
    rw [em_nil] at HE
    go_enter Tryz.func29, Tryz.ntmps29
    go_wp2_with fail
    refine (cI _).mono ?_
    rintro e w' ⟨rfl, rfl⟩
    go_wp2_with fail
    go_ret
    exact ⟨by rw [HE.out]; first | rfl | simp, HB.out⟩
   ·obtain ⟨ed1, ed2, ed3, ed4⟩ := em_facts hd
    rw [ed4] at HE
    clear ed4 hd
    go_enter Tryz.func29, Tryz.ntmps29
    go_wp2_with fail
    go_ret
    exact ⟨by rw [HE.out]; first | rfl | simp, HB.out⟩
  ·obtain ⟨et1, et2, et4⟩ := z_facts ht
   rw [et4] at HE
   clear et4 ht
   by_cases hd : d = ⟨#[]⟩
   ·subst hd
    rw [em_nil] at HE
    go_enter Tryz.func29, Tryz.ntmps29
    go_wp2_with fail
    go_ret
    exact ⟨by rw [HE.out]; first | rfl | simp, HB.out⟩
   ·obtain ⟨ed1, ed2, ed3, ed4⟩ := em_facts hd
    rw [ed4] at HE
    clear ed4 hd
    go_enter Tryz.func29, Tryz.ntmps29
    go_wp2_with fail
    go_ret
    exact ⟨by rw [HE.out]; first | rfl | simp, HB.out⟩
 ·obtain ⟨ek1, ek2, ek3, ek4⟩ := em_facts hk
  rw [ek4] at HE
  clear ek4 hk
  by_cases ht : t = 0
  ·subst ht
   rw [z_nil] at HE
   by_cases hd : d = ⟨#[]⟩
   ·subst hd
    rw [em_nil] at HE
    go_enter Tryz.func29, Tryz.ntmps29
    go_wp2_with fail
    go_ret
    exact ⟨by rw [HE.out]; first | rfl | simp, HB.out⟩
   ·obtain ⟨ed1, ed2, ed3, ed4⟩ := em_facts hd
    rw [ed4] at HE
    clear ed4 hd
    go_enter Tryz.func29, Tryz.ntmps29
    go_wp2_with fail
    go_ret
    exact ⟨by rw [HE.out]; first | rfl | simp, HB.out⟩
  ·obtain ⟨et1, et2, et4⟩ := z_facts ht
   rw [et4] at HE
   clear et4 ht
   by_cases hd : d = ⟨#[]⟩
   ·subst hd
    rw [em_nil] at HE
    go_enter Tryz.func29, Tryz.ntmps29
    go_wp2_with fail
    go_ret
    exact ⟨by rw [HE.out]; first | rfl | simp, HB.out⟩
   ·obtain ⟨ed1, ed2, ed3, ed4⟩ := em_facts hd
    rw [ed4] at HE
    clear ed4 hd
    go_enter Tryz.func29, Tryz.ntmps29
    go_wp2_with fail
    go_ret
    exact ⟨by rw [HE.out]; first | rfl | simp, HB.out⟩
set_option maxHeartbeats 4000000 in
theorem implOpOk_7 (k : ByteArray) (f t : Int) (d : ByteArray) (w : World) (hk : k.size ≤ maxLen) : Calls Tryz.prog 29 #[vOp ⟨7, k, f, t, d⟩] w fun e w' => e = .returned (.bool (opOk ⟨7, k, f, t, d⟩)) ∧ Below w.heap.size w w' := by
 have HE : Hid (opOk ⟨7, k, f, t, d⟩ = (emB k && zB f && zB t && emB d)) := by unfold Hid opOk; simp
 have HB : Hid (Below w.heap.size w (w.alloc (.cells #[.int .i64 7, .string k, .int .i64 f, .int .i64 t, .string d] 23))) := below_a1 _ _
 have cS := implSpanOk f t
 have cI := inI f 0 1099511627776
 have cH := inI f 0 100000
 have cK := fun wx => implIsKey k wx hk
 clear hk
 rw [show decide (KOk k) = keyB k from by unfold keyB; first | rfl | congr] at cK
 unfold vOp
 simp only
 by_cases hk : k = ⟨#[]⟩
 ·subst hk
  rw [em_nil] at HE
  by_cases hf : f = 0
  ·subst hf
   rw [z_nil] at HE
   by_cases ht : t = 0
   ·subst ht
    rw [z_nil] at HE
    by_cases hd : d = ⟨#[]⟩
    ·subst hd
     rw [em_nil] at HE
     go_enter Tryz.func29, Tryz.ntmps29
     go_wp2_with fail
     go_ret
     exact ⟨by rw [HE.out]; first | rfl | simp, HB.out⟩
    ·obtain ⟨ed1, ed2, ed3, ed4⟩ := em_facts hd
     rw [ed4] at HE
     clear ed4 hd
     go_enter Tryz.func29, Tryz.ntmps29
     go_wp2_with fail
     go_ret
     exact ⟨by rw [HE.out]; first | rfl | simp, HB.out⟩
   ·obtain ⟨et1, et2, et4⟩ := z_facts ht
    rw [et4] at HE
    clear et4 ht
    by_cases hd : d = ⟨#[]⟩
    ·subst hd
     rw [em_nil] at HE
     go_enter Tryz.func29, Tryz.ntmps29
     go_wp2_with fail
     go_ret
     exact ⟨by rw [HE.out]; first | rfl | simp, HB.out⟩
    ·obtain ⟨ed1, ed2, ed3, ed4⟩ := em_facts hd
     rw [ed4] at HE
     clear ed4 hd
     go_enter Tryz.func29, Tryz.ntmps29
     go_wp2_with fail
     go_ret
     exact ⟨by rw [HE.out]; first | rfl | simp, HB.out⟩
  ·obtain ⟨ef1, ef2, ef4⟩ := z_facts hf
   rw [ef4] at HE
   clear ef4 hf
   by_cases ht : t = 0
   ·subst ht
    rw [z_nil] at HE
    by_cases hd : d = ⟨#[]⟩
    ·subst hd
     rw [em_nil] at HE
     go_enter Tryz.func29, Tryz.ntmps29
     go_wp2_with fail
     go_ret
     exact ⟨by rw [HE.out]; first | rfl | simp, HB.out⟩
    ·obtain ⟨ed1, ed2, ed3, ed4⟩ := em_facts hd
     rw [ed4] at HE
     clear ed4 hd
     go_enter Tryz.func29, Tryz.ntmps29
     go_wp2_with fail
     go_ret
     exact ⟨by rw [HE.out]; first | rfl | simp, HB.out⟩
   ·obtain ⟨et1, et2, et4⟩ := z_facts ht
    rw [et4] at HE
    clear et4 ht
    by_cases hd : d = ⟨#[]⟩
    ·subst hd
     rw [em_nil] at HE
     go_enter Tryz.func29, Tryz.ntmps29
     go_wp2_with fail
     go_ret
     exact ⟨by rw [HE.out]; first | rfl | simp, HB.out⟩
    ·obtain ⟨ed1, ed2, ed3, ed4⟩ := em_facts hd
     rw [ed4] at HE
     clear ed4 hd
     go_enter Tryz.func29, Tryz.ntmps29
     go_wp2_with fail
     go_ret
     exact ⟨by rw [HE.out]; first | rfl | simp, HB.out⟩
 ·obtain ⟨ek1, ek2, ek3, ek4⟩ := em_facts hk
  rw [ek4] at HE
  clear ek4 hk
  by_cases hf : f = 0
  ·subst hf
   rw [z_nil] at HE
   by_cases ht : t = 0
   ·subst ht
    rw [z_nil] at HE
    by_cases hd : d = ⟨#[]⟩
    ·subst hd
     rw [em_nil] at HE
     go_enter Tryz.func29, Tryz.ntmps29
     go_wp2_with fail
     go_ret
     exact ⟨by rw [HE.out]; first | rfl | simp, HB.out⟩
    ·obtain ⟨ed1, ed2, ed3, ed4⟩ := em_facts hd
     rw [ed4] at HE
     clear ed4 hd
     go_enter Tryz.func29, Tryz.ntmps29
     go_wp2_with fail
     go_ret
     exact ⟨by rw [HE.out]; first | rfl | simp, HB.out⟩
   ·obtain ⟨et1, et2, et4⟩ := z_facts ht
    rw [et4] at HE
    clear et4 ht
    by_cases hd : d = ⟨#[]⟩
    ·subst hd
     rw [em_nil] at HE
     go_enter Tryz.func29, Tryz.ntmps29
     go_wp2_with fail
     go_ret
     exact ⟨by rw [HE.out]; first | rfl | simp, HB.out⟩
    ·obtain ⟨ed1, ed2, ed3, ed4⟩ := em_facts hd
     rw [ed4] at HE
     clear ed4 hd
     go_enter Tryz.func29, Tryz.ntmps29
     go_wp2_with fail
     go_ret
     exact ⟨by rw [HE.out]; first | rfl | simp, HB.out⟩
  ·obtain ⟨ef1, ef2, ef4⟩ := z_facts hf
   rw [ef4] at HE
   clear ef4 hf
   by_cases ht : t = 0
   ·subst ht
    rw [z_nil] at HE
    by_cases hd : d = ⟨#[]⟩
    ·subst hd
     rw [em_nil] at HE
     go_enter Tryz.func29, Tryz.ntmps29
     go_wp2_with fail
     go_ret
     exact ⟨by rw [HE.out]; first | rfl | simp, HB.out⟩
    ·obtain ⟨ed1, ed2, ed3, ed4⟩ := em_facts hd
     rw [ed4] at HE
     clear ed4 hd
     go_enter Tryz.func29, Tryz.ntmps29
     go_wp2_with fail
     go_ret
     exact ⟨by rw [HE.out]; first | rfl | simp, HB.out⟩
   ·obtain ⟨et1, et2, et4⟩ := z_facts ht
    rw [et4] at HE
    clear et4 ht
    by_cases hd : d = ⟨#[]⟩
    ·subst hd
     rw [em_nil] at HE
     go_enter Tryz.func29, Tryz.ntmps29
     go_wp2_with fail
     go_ret
     exact ⟨by rw [HE.out]; first | rfl | simp, HB.out⟩
    ·obtain ⟨ed1, ed2, ed3, ed4⟩ := em_facts hd
     rw [ed4] at HE
     clear ed4 hd
     go_enter Tryz.func29, Tryz.ntmps29
     go_wp2_with fail
     go_ret
     exact ⟨by rw [HE.out]; first | rfl | simp, HB.out⟩
set_option maxHeartbeats 4000000 in
theorem implOpOk_5 (k : ByteArray) (f t : Int) (d : ByteArray) (w : World) (hk : k.size ≤ maxLen) : Calls Tryz.prog 29 #[vOp ⟨5, k, f, t, d⟩] w fun e w' => e = .returned (.bool (opOk ⟨5, k, f, t, d⟩)) ∧ Below w.heap.size w w' := by
 have HE : Hid (opOk ⟨5, k, f, t, d⟩ = (keyB k && spanB f t && emB d)) := by unfold Hid opOk; simp
 have HB : Hid (Below w.heap.size w (w.alloc (.cells #[.int .i64 5, .string k, .int .i64 f, .int .i64 t, .string d] 23))) := below_a1 _ _
 have cS := implSpanOk f t
 have cI := inI f 0 1099511627776
 have cH := inI f 0 100000
 have cK := fun wx => implIsKey k wx hk
 clear hk
 rw [show decide (KOk k) = keyB k from by unfold keyB; first | rfl | congr] at cK
 unfold vOp
 simp only
 by_cases hd : d = ⟨#[]⟩
 ·subst hd
  rw [em_nil] at HE
  go_enter Tryz.func29, Tryz.ntmps29
  go_wp2_with fail
  refine (cK _).mono ?_
  rintro e w1 ⟨rfl, rfl⟩
  cases hc : keyB k <;> rw [hc] at HE
  ·go_wp2_with fail
   go_ret
   exact ⟨by rw [HE.out]; first | rfl | simp, HB.out⟩
  ·go_wp2_with fail
   refine (cS _).mono ?_
   rintro e w' ⟨rfl, rfl⟩
   go_wp2_with fail
   go_ret
   exact ⟨by rw [HE.out]; first | rfl | simp, HB.out⟩
 ·obtain ⟨ed1, ed2, ed3, ed4⟩ := em_facts hd
  rw [ed4] at HE
  clear ed4 hd
  go_enter Tryz.func29, Tryz.ntmps29
  go_wp2_with fail
  go_ret
  exact ⟨by rw [HE.out]; first | rfl | simp, HB.out⟩
set_option maxHeartbeats 4000000 in
theorem implOpOk_4 (k : ByteArray) (f t : Int) (d : ByteArray) (w : World) (hk : k.size ≤ maxLen) (hd : d.size ≤ 1048576) (hst : SumTab w) (a0 a1 a2 : Addr) (he : Errs w a0 a1 a2) : Calls Tryz.prog 29 #[vOp ⟨4, k, f, t, d⟩] w fun e w' => e = .returned (.bool (opOk ⟨4, k, f, t, d⟩)) ∧ Below w.heap.size w w' := by
 have HE : Hid (opOk ⟨4, k, f, t, d⟩ = (keyB k && rdB d && zB f && zB t)) := by unfold Hid opOk; simp
 obtain ⟨X, hX⟩ : ∃ X, X = w.alloc (.cells #[.int .i64 4, .string k, .int .i64 f, .int .i64 t, .string d] 23) := ⟨_, rfl⟩
 have HBX : Hid (Below w.heap.size w X) := by rw [hX]; exact below_a1 _ _
 have KX : Hid (CellO X w.heap.size ⟨4, k, f, t, d⟩) := by rw [hX]; exact CellO.new w ⟨4, k, f, t, d⟩ _
 have cR := implReadBlock d X hd (hst.on HBX.out) a0 a1 a2 (he.on HBX.out)
 have cK := fun wx => implIsKey k wx hk
 clear hk hd hst he
 rw [show decide (KOk k) = keyB k from by unfold keyB; first | rfl | congr] at cK
 unfold vOp
 simp only
 go_enter Tryz.func29, Tryz.ntmps29
 go_wp2_with fail
 rw [← hX]
 clear hX
 refine cR.mono ?_
 rintro e w1 ⟨⟨u, l, ok, hA, rfl, hO⟩, hb⟩
 have hr := rdB_is hA
 rw [hr] at HE
 have HB : Hid (Below w.heap.size w w1) := HBX.out.trans (hb.mono HBX.out.size)
 obtain ⟨⟨g0, g1, g2, g3, g4⟩, _⟩ := KX.out.on hb KX.out.2
 simp only at g0 g1 g2 g3 g4
 obtain ⟨Au, mu, cu, rfl⟩ := hO.shape
 clear hA hO hb hr cR KX
 by_cases hf : f = 0
 ·subst hf
  rw [z_nil] at HE
  by_cases ht : t = 0
  ·subst ht
   rw [z_nil] at HE
   go_wp2_with fail
   refine (cK _).mono ?_
   rintro e w' ⟨rfl, rfl⟩
   cases hc : keyB k <;> rw [hc] at HE
   ·go_wp2_with fail
    go_ret
    exact ⟨by rw [HE.out]; first | rfl | simp, HB.out⟩
   ·go_wp2_with fail
    go_ret
    exact ⟨by rw [HE.out]; first | rfl | simp, HB.out⟩
  ·obtain ⟨et1, et2, et4⟩ := z_facts ht
   rw [et4] at HE
   clear et4 ht
   go_wp2_with fail
   go_ret
   exact ⟨by rw [HE.out]; first | rfl | simp, HB.out⟩
 ·obtain ⟨ef1, ef2, ef4⟩ := z_facts hf
  rw [ef4] at HE
  clear ef4 hf
  by_cases ht : t = 0
  ·subst ht
   rw [z_nil] at HE
   go_wp2_with fail
   go_ret
   exact ⟨by rw [HE.out]; first | rfl | simp, HB.out⟩
  ·obtain ⟨et1, et2, et4⟩ := z_facts ht
   rw [et4] at HE
   clear et4 ht
   go_wp2_with fail
   go_ret
   exact ⟨by rw [HE.out]; first | rfl | simp, HB.out⟩
set_option maxHeartbeats 4000000 in
theorem implOpOk_no (x : Opx) (w : World) (h : x.kind ≠ 1 ∧ x.kind ≠ 2 ∧ x.kind ≠ 3 ∧ x.kind ≠ 4 ∧ x.kind ≠ 5 ∧ x.kind ≠ 6 ∧ x.kind ≠ 7) : Calls Tryz.prog 29 #[vOp x] w fun e w' => e = .returned (.bool (opOk x)) ∧ Below w.heap.size w w' := by
 obtain ⟨n, k, f, t, d⟩ := x
 simp only at h
 obtain ⟨h1, h2, h3, h4, h5, h6, h7⟩ := h
 have HE : Hid (opOk ⟨n, k, f, t, d⟩ = false) := by unfold Hid opOk; simp [h1, h2, h3, h4, h5, h6, h7]
 have HB : Hid (Below w.heap.size w (w.alloc (.cells #[.int .i64 n, .string k, .int .i64 f, .int .i64 t, .string d] 23))) := below_a1 _ _
 have z1 : (n == 1) = false := by simpa using h1
 have z2 : (n == 2) = false := by simpa using h2
 have z3 : (n == 3) = false := by simpa using h3
 have z4 : (n == 4) = false := by simpa using h4
 have z5 : (n == 5) = false := by simpa using h5
 have z6 : (n == 6) = false := by simpa using h6
 have z7 : (n == 7) = false := by simpa using h7
 clear h1 h2 h3 h4 h5 h6 h7
 unfold vOp
 simp only
 go_enter Tryz.func29, Tryz.ntmps29
 go_wp2_with fail
 go_ret
 exact ⟨by rw [HE.out]; rfl, HB.out⟩
theorem implOpOk (x : Opx) (w : World) (hk : x.key.size ≤ maxLen) (hd : x.data.size ≤ 1048576) (hst : SumTab w) (a0 a1 a2 : Addr) (he : Errs w a0 a1 a2) : Calls Tryz.prog 29 #[vOp x] w fun e w' => e = .returned (.bool (opOk x)) ∧ Below w.heap.size w w' := by
 by_cases h : x.kind ≠ 1 ∧ x.kind ≠ 2 ∧ x.kind ≠ 3 ∧ x.kind ≠ 4 ∧ x.kind ≠ 5 ∧ x.kind ≠ 6 ∧ x.kind ≠ 7
 ·exact implOpOk_no x w h
 ·obtain ⟨n, k, f, t, d⟩ := x
  simp only at h hk hd
  have : n = 1 ∨ n = 2 ∨ n = 3 ∨ n = 4 ∨ n = 5 ∨ n = 6 ∨ n = 7 := by omega
  rcases this with rfl | rfl | rfl | rfl | rfl | rfl | rfl
  ·exact implOpOk_1 k f t d w hk
  ·exact implOpOk_2 k f t d w hk
  ·exact implOpOk_3 k f t d w hk
  ·exact implOpOk_4 k f t d w hk hd hst a0 a1 a2 he
  ·exact implOpOk_5 k f t d w hk
  ·exact implOpOk_6 k f t d w hk
  ·exact implOpOk_7 k f t d w hk
end Go.Proofs.YtgbepickfhbknaaGreatDoor
namespace Go.Proofs.YtgbepickfhbknaaGreatDoor
open Go.ChangeShapes Go.WideShapes Go.ChangeAt Go.RowKit Go.PlainAid
set_option linter.unusedVariables false
def lf (s : ByteArray) (i : Nat) : ByteArray := s.extract i s.size
theorem lf_size (s : ByteArray) (i : Nat) : (lf s i).size = s.size - i := by rw [lf, ByteArray.size_extract]; omega
theorem lf_zero (s : ByteArray) : lf s 0 = s := ByteArray.extract_zero_size
theorem lf_lf (s : ByteArray) (i j : Nat) : (lf s i).extract j (lf s i).size = lf s (i + j) := by
 rw [lf_size]
 unfold lf
 rw [ByteArray.extract_extract]
 by_cases h : i ≤ s.size
 ·congr 1 <;> omega
 ·have e1 : (s.extract (i + j) (min (i + (s.size - i)) s.size)).size = 0 := by rw [ByteArray.size_extract]; omega
  have e2 : (s.extract (i + j) s.size).size = 0 := by rw [ByteArray.size_extract]; omega
  rw [ByteArray.size_eq_zero_iff] at e1 e2
  rw [e1, e2]
def RdF (s : ByteArray) (a : Nat) : Nat → List Int → Nat → Prop
 | 0, l, n => l = [] ∧ n = a
 | k + 1, l, n => ∃ l' n' m, RdF s a k l' n' ∧ FindV (lf s n') m ∧ l = l' ++ [(vvS (lf s n') 0 m : Int)] ∧ n = n' + m
theorem RdF.one {s : ByteArray} {a : Nat} : ∀ {k : Nat} {l l' : List Int} {n n' : Nat}, RdF s a k l n → RdF s a k l' n' → l = l' ∧ n = n'
 | 0, _, _, _, _, h, h' => ⟨h.1.trans h'.1.symm, h.2.trans h'.2.symm⟩
 | k + 1, _, _, _, _, ⟨a, b, m, h1, h2, h3, h4⟩, ⟨a', b', m', h1', h2', h3', h4'⟩ => by
  obtain ⟨rfl, rfl⟩ := RdF.one h1 h1'
  have := h2.one h2'
  subst this
  exact ⟨h3.trans h3'.symm, h4.trans h4'.symm⟩
theorem RdF.before {s : ByteArray} {a : Nat} : ∀ {k : Nat} {l : List Int} {n : Nat}, RdF s a k l n → ∀ j, j < k → ∃ l' n' m, RdF s a j l' n' ∧ FindV (lf s n') m
 | 0, _, _, _, j, hj => by omega
 | k + 1, _, _, ⟨a, b, m, h1, h2, h3, h4⟩, j, hj => by
  by_cases e : j = k
  ·subst e; exact ⟨a, b, m, h1, h2⟩
  ·exact RdF.before h1 j (by omega)
theorem RdF.no {s : ByteArray} {a k j : Nat} {l : List Int} {n : Nat} (h1 : RdF s a j l n) (hj : j < k) (h2 : ∀ m, ¬ FindV (lf s n) m) : ∀ l' n', ¬ RdF s a k l' n' := by
 intro l' n' h
 obtain ⟨l2, n2, m, h3, h4⟩ := h.before j hj
 obtain ⟨rfl, rfl⟩ := h1.one h3
 exact h2 m h4
theorem RdF.length {s : ByteArray} {a : Nat} : ∀ {k : Nat} {l : List Int} {n : Nat}, RdF s a k l n → l.length = k
 | 0, _, _, h => by rw [h.1]; rfl
 | k + 1, _, _, ⟨a, b, m, h1, h2, h3, h4⟩ => by rw [h3, List.length_append, RdF.length h1]; rfl
theorem RdF.ge {s : ByteArray} {a : Nat} : ∀ {k : Nat} {l : List Int} {n : Nat}, RdF s a k l n → a + k ≤ n ∧ (1 ≤ k → n ≤ s.size)
 | 0, _, _, h => ⟨by rw [h.2]; omega, by omega⟩
 | k + 1, _, _, ⟨a, b, m, h1, h2, h3, h4⟩ => by
  have h5 := RdF.ge h1
  obtain ⟨h6, h7, h8, _⟩ := h2
  rw [lf_size] at h8
  exact ⟨by omega, by omega⟩
theorem RdF.le {s : ByteArray} {a : Nat} : ∀ {k : Nat} {l : List Int} {n : Nat}, RdF s a k l n → n ≤ a + 7 * k
 | 0, _, _, h => by rw [h.2]; omega
 | k + 1, _, _, ⟨a, b, m, h1, h2, h3, h4⟩ => by
  have h5 := RdF.le h1
  obtain ⟨h6, h7, h8, _⟩ := h2
  omega
theorem RdF.bound {s : ByteArray} {a : Nat} : ∀ {k : Nat} {l : List Int} {n : Nat}, RdF s a k l n → ∀ z ∈ l, 0 ≤ z ∧ z ≤ 562949953421311
 | 0, _, _, h, z, hz => by rw [h.1] at hz; cases hz
 | k + 1, _, _, ⟨a, b, m, h1, h2, h3, h4⟩, z, hz => by
  rw [h3] at hz
  rcases List.mem_append.1 hz with hz | hz
  ·exact RdF.bound h1 z hz
  ·simp at hz
   have := vvS_le (lf s b) m h2.2.1 0
   omega
theorem find_text {t : ByteArray} {m : Nat} (h : FindV t m) : txt (vF 6 (vvS t 0 m)) = t.extract 0 m := by
 obtain ⟨h1, h7, h8, h9⟩ := h
 obtain ⟨d, rfl⟩ : ∃ d, m = d + 1 := ⟨m - 1, by omega⟩
 rw [sg_extract t _ h8, (canonS_iff t d 0 6 (by omega)).2 h9]
def varsT : List Int → ByteArray
 | [] => ByteArray.empty
 | z :: l => txt (vF 6 z.toNat) ++ varsT l
theorem varsT_append (l m : List Int) : varsT (l ++ m) = varsT l ++ varsT m := by
 induction l with
 | nil => simp [varsT]
 | cons z l ih => simp [varsT, ih, ByteArray.append_assoc]
theorem RdF.text {s : ByteArray} {a : Nat} : ∀ {k : Nat} {l : List Int} {n : Nat}, RdF s a k l n → s.extract a n = varsT l
 | 0, _, _, h => by rw [h.1, h.2]; apply ByteArray.ext; simp [varsT]
 | k + 1, _, _, ⟨l, b, m, h1, h2, h3, h4⟩ => by
  have h5 := RdF.text h1
  have hge := RdF.ge h1
  have h8 := h2.2.2.1
  have h61 := h2.1
  rw [lf_size] at h8
  have e : s.extract a (b + m) = s.extract a b ++ s.extract b (b + m) := by
   rw [ByteArray.extract_append_extract]
   congr 1 <;> omega
  have e2 : (lf s b).extract 0 m = s.extract b (b + m) := by
   unfold lf
   rw [ByteArray.extract_extract]
   congr 1
   omega
  rw [h3, h4, e, h5, varsT_append, ← e2, ← find_text h2]
  simp [varsT]
theorem cut_in_two (s : ByteArray) (n : Nat) (h : n ≤ s.size) : s = s.extract 0 n ++ lf s n := by
 unfold lf
 rw [ByteArray.extract_append_extract]
 have e1 : min 0 n = 0 := by omega
 have e2 : max n s.size = s.size := by omega
 rw [e1, e2]
 exact ByteArray.extract_zero_size.symm
end Go.Proofs.YtgbepickfhbknaaGreatDoor
namespace Go.Proofs.YtgbepickfhbknaaGreatDoor
open Go.ChangeShapes Go.WideShapes Go.ChangeAt Go.RowKit Go.PlainAid
set_option linter.unusedVariables false
theorem resC5 {w : World} {g : Nat} {a0 a1 a2 a3 a4 x0 x1 x2 x3 x4 : Value} {t : TypeId} (h : Blk w g #[a0, a1, a2, a3, a4] t) :
  (w.cell? ⟨g, 0, none⟩ = some a0 ∧ w.frozen? ⟨g, 0, none⟩ = false) ∧ ((w.setCell ⟨g, 0, none⟩ x0).cell? ⟨g, 1, none⟩ = some a1 ∧ (w.setCell ⟨g, 0, none⟩ x0).frozen? ⟨g, 1, none⟩ = false) ∧ (((w.setCell ⟨g, 0, none⟩ x0).setCell ⟨g, 1, none⟩ x1).cell? ⟨g, 2, none⟩ = some a2 ∧ ((w.setCell ⟨g, 0, none⟩ x0).setCell ⟨g, 1, none⟩ x1).frozen? ⟨g, 2, none⟩ = false) ∧ ((((w.setCell ⟨g, 0, none⟩ x0).setCell ⟨g, 1, none⟩ x1).setCell ⟨g, 2, none⟩ x2).cell? ⟨g, 3, none⟩ = some a3 ∧ (((w.setCell ⟨g, 0, none⟩ x0).setCell ⟨g, 1, none⟩ x1).setCell ⟨g, 2, none⟩ x2).frozen? ⟨g, 3, none⟩ = false) ∧ (((((w.setCell ⟨g, 0, none⟩ x0).setCell ⟨g, 1, none⟩ x1).setCell ⟨g, 2, none⟩ x2).setCell ⟨g, 3, none⟩ x3).cell? ⟨g, 4, none⟩ = some a4 ∧ ((((w.setCell ⟨g, 0, none⟩ x0).setCell ⟨g, 1, none⟩ x1).setCell ⟨g, 2, none⟩ x2).setCell ⟨g, 3, none⟩ x3).frozen? ⟨g, 4, none⟩ = false) ∧
  (((((w.setCell ⟨g, 0, none⟩ x0).setCell ⟨g, 1, none⟩ x1).setCell ⟨g, 2, none⟩ x2).setCell ⟨g, 3, none⟩ x3).setCell ⟨g, 4, none⟩ x4).cell? ⟨g, 0, none⟩ = some x0 ∧ (((((w.setCell ⟨g, 0, none⟩ x0).setCell ⟨g, 1, none⟩ x1).setCell ⟨g, 2, none⟩ x2).setCell ⟨g, 3, none⟩ x3).setCell ⟨g, 4, none⟩ x4).cell? ⟨g, 1, none⟩ = some x1 ∧ (((((w.setCell ⟨g, 0, none⟩ x0).setCell ⟨g, 1, none⟩ x1).setCell ⟨g, 2, none⟩ x2).setCell ⟨g, 3, none⟩ x3).setCell ⟨g, 4, none⟩ x4).cell? ⟨g, 2, none⟩ = some x2 ∧ (((((w.setCell ⟨g, 0, none⟩ x0).setCell ⟨g, 1, none⟩ x1).setCell ⟨g, 2, none⟩ x2).setCell ⟨g, 3, none⟩ x3).setCell ⟨g, 4, none⟩ x4).cell? ⟨g, 3, none⟩ = some x3 ∧ (((((w.setCell ⟨g, 0, none⟩ x0).setCell ⟨g, 1, none⟩ x1).setCell ⟨g, 2, none⟩ x2).setCell ⟨g, 3, none⟩ x3).setCell ⟨g, 4, none⟩ x4).cell? ⟨g, 4, none⟩ = some x4 := by
 have h1 : Blk (w.setCell ⟨g, 0, none⟩ x0) g #[x0, a1, a2, a3, a4] t := h.set 0 x0
 have h2 : Blk ((w.setCell ⟨g, 0, none⟩ x0).setCell ⟨g, 1, none⟩ x1) g #[x0, x1, a2, a3, a4] t := h1.set 1 x1
 have h3 : Blk (((w.setCell ⟨g, 0, none⟩ x0).setCell ⟨g, 1, none⟩ x1).setCell ⟨g, 2, none⟩ x2) g #[x0, x1, x2, a3, a4] t := h2.set 2 x2
 have h4 : Blk ((((w.setCell ⟨g, 0, none⟩ x0).setCell ⟨g, 1, none⟩ x1).setCell ⟨g, 2, none⟩ x2).setCell ⟨g, 3, none⟩ x3) g #[x0, x1, x2, x3, a4] t := h3.set 3 x3
 have h5 : Blk (((((w.setCell ⟨g, 0, none⟩ x0).setCell ⟨g, 1, none⟩ x1).setCell ⟨g, 2, none⟩ x2).setCell ⟨g, 3, none⟩ x3).setCell ⟨g, 4, none⟩ x4) g #[x0, x1, x2, x3, x4] t := h4.set 4 x4
 exact ⟨⟨h.cell 0 _ rfl, h.free 0⟩, ⟨h1.cell 1 _ rfl, h1.free 1⟩, ⟨h2.cell 2 _ rfl, h2.free 2⟩, ⟨h3.cell 3 _ rfl, h3.free 3⟩, ⟨h4.cell 4 _ rfl, h4.free 4⟩, h5.cell 0 _ rfl, h5.cell 1 _ rfl, h5.cell 2 _ rfl, h5.cell 3 _ rfl, h5.cell 4 _ rfl⟩
theorem belowC5 {w w' : World} {B g : Nat} (h : Below B w w') (hg : B ≤ g) (x0 x1 x2 x3 x4 : Value) : Below B w (((((w'.setCell ⟨g, 0, none⟩ x0).setCell ⟨g, 1, none⟩ x1).setCell ⟨g, 2, none⟩ x2).setCell ⟨g, 3, none⟩ x3).setCell ⟨g, 4, none⟩ x4) := (((((h.setCell hg _).setCell hg _).setCell hg _).setCell hg _).setCell hg _)
theorem cellsC5 {w : World} {g : Nat} {a0 a1 a2 a3 a4 : Value} {t : TypeId} (h : Blk w g #[a0, a1, a2, a3, a4] t) : w.cell? ⟨g, 0, none⟩ = some a0 ∧ w.cell? ⟨g, 1, none⟩ = some a1 ∧ w.cell? ⟨g, 2, none⟩ = some a2 ∧ w.cell? ⟨g, 3, none⟩ = some a3 ∧ w.cell? ⟨g, 4, none⟩ = some a4 := ⟨h.cell 0 _ rfl, h.cell 1 _ rfl, h.cell 2 _ rfl, h.cell 3 _ rfl, h.cell 4 _ rfl⟩
theorem resC7 {w : World} {g : Nat} {a0 a1 a2 a3 a4 a5 a6 x0 x1 x2 x3 x4 x5 x6 : Value} {t : TypeId} (h : Blk w g #[a0, a1, a2, a3, a4, a5, a6] t) :
  (w.cell? ⟨g, 0, none⟩ = some a0 ∧ w.frozen? ⟨g, 0, none⟩ = false) ∧ ((w.setCell ⟨g, 0, none⟩ x0).cell? ⟨g, 1, none⟩ = some a1 ∧ (w.setCell ⟨g, 0, none⟩ x0).frozen? ⟨g, 1, none⟩ = false) ∧ (((w.setCell ⟨g, 0, none⟩ x0).setCell ⟨g, 1, none⟩ x1).cell? ⟨g, 2, none⟩ = some a2 ∧ ((w.setCell ⟨g, 0, none⟩ x0).setCell ⟨g, 1, none⟩ x1).frozen? ⟨g, 2, none⟩ = false) ∧ ((((w.setCell ⟨g, 0, none⟩ x0).setCell ⟨g, 1, none⟩ x1).setCell ⟨g, 2, none⟩ x2).cell? ⟨g, 3, none⟩ = some a3 ∧ (((w.setCell ⟨g, 0, none⟩ x0).setCell ⟨g, 1, none⟩ x1).setCell ⟨g, 2, none⟩ x2).frozen? ⟨g, 3, none⟩ = false) ∧ (((((w.setCell ⟨g, 0, none⟩ x0).setCell ⟨g, 1, none⟩ x1).setCell ⟨g, 2, none⟩ x2).setCell ⟨g, 3, none⟩ x3).cell? ⟨g, 4, none⟩ = some a4 ∧ ((((w.setCell ⟨g, 0, none⟩ x0).setCell ⟨g, 1, none⟩ x1).setCell ⟨g, 2, none⟩ x2).setCell ⟨g, 3, none⟩ x3).frozen? ⟨g, 4, none⟩ = false) ∧ ((((((w.setCell ⟨g, 0, none⟩ x0).setCell ⟨g, 1, none⟩ x1).setCell ⟨g, 2, none⟩ x2).setCell ⟨g, 3, none⟩ x3).setCell ⟨g, 4, none⟩ x4).cell? ⟨g, 5, none⟩ = some a5 ∧ (((((w.setCell ⟨g, 0, none⟩ x0).setCell ⟨g, 1, none⟩ x1).setCell ⟨g, 2, none⟩ x2).setCell ⟨g, 3, none⟩ x3).setCell ⟨g, 4, none⟩ x4).frozen? ⟨g, 5, none⟩ = false) ∧ (((((((w.setCell ⟨g, 0, none⟩ x0).setCell ⟨g, 1, none⟩ x1).setCell ⟨g, 2, none⟩ x2).setCell ⟨g, 3, none⟩ x3).setCell ⟨g, 4, none⟩ x4).setCell ⟨g, 5, none⟩ x5).cell? ⟨g, 6, none⟩ = some a6 ∧ ((((((w.setCell ⟨g, 0, none⟩ x0).setCell ⟨g, 1, none⟩ x1).setCell ⟨g, 2, none⟩ x2).setCell ⟨g, 3, none⟩ x3).setCell ⟨g, 4, none⟩ x4).setCell ⟨g, 5, none⟩ x5).frozen? ⟨g, 6, none⟩ = false) ∧
  (((((((w.setCell ⟨g, 0, none⟩ x0).setCell ⟨g, 1, none⟩ x1).setCell ⟨g, 2, none⟩ x2).setCell ⟨g, 3, none⟩ x3).setCell ⟨g, 4, none⟩ x4).setCell ⟨g, 5, none⟩ x5).setCell ⟨g, 6, none⟩ x6).cell? ⟨g, 0, none⟩ = some x0 ∧ (((((((w.setCell ⟨g, 0, none⟩ x0).setCell ⟨g, 1, none⟩ x1).setCell ⟨g, 2, none⟩ x2).setCell ⟨g, 3, none⟩ x3).setCell ⟨g, 4, none⟩ x4).setCell ⟨g, 5, none⟩ x5).setCell ⟨g, 6, none⟩ x6).cell? ⟨g, 1, none⟩ = some x1 ∧ (((((((w.setCell ⟨g, 0, none⟩ x0).setCell ⟨g, 1, none⟩ x1).setCell ⟨g, 2, none⟩ x2).setCell ⟨g, 3, none⟩ x3).setCell ⟨g, 4, none⟩ x4).setCell ⟨g, 5, none⟩ x5).setCell ⟨g, 6, none⟩ x6).cell? ⟨g, 2, none⟩ = some x2 ∧ (((((((w.setCell ⟨g, 0, none⟩ x0).setCell ⟨g, 1, none⟩ x1).setCell ⟨g, 2, none⟩ x2).setCell ⟨g, 3, none⟩ x3).setCell ⟨g, 4, none⟩ x4).setCell ⟨g, 5, none⟩ x5).setCell ⟨g, 6, none⟩ x6).cell? ⟨g, 3, none⟩ = some x3 ∧ (((((((w.setCell ⟨g, 0, none⟩ x0).setCell ⟨g, 1, none⟩ x1).setCell ⟨g, 2, none⟩ x2).setCell ⟨g, 3, none⟩ x3).setCell ⟨g, 4, none⟩ x4).setCell ⟨g, 5, none⟩ x5).setCell ⟨g, 6, none⟩ x6).cell? ⟨g, 4, none⟩ = some x4 ∧ (((((((w.setCell ⟨g, 0, none⟩ x0).setCell ⟨g, 1, none⟩ x1).setCell ⟨g, 2, none⟩ x2).setCell ⟨g, 3, none⟩ x3).setCell ⟨g, 4, none⟩ x4).setCell ⟨g, 5, none⟩ x5).setCell ⟨g, 6, none⟩ x6).cell? ⟨g, 5, none⟩ = some x5 ∧ (((((((w.setCell ⟨g, 0, none⟩ x0).setCell ⟨g, 1, none⟩ x1).setCell ⟨g, 2, none⟩ x2).setCell ⟨g, 3, none⟩ x3).setCell ⟨g, 4, none⟩ x4).setCell ⟨g, 5, none⟩ x5).setCell ⟨g, 6, none⟩ x6).cell? ⟨g, 6, none⟩ = some x6 := by
 have h1 : Blk (w.setCell ⟨g, 0, none⟩ x0) g #[x0, a1, a2, a3, a4, a5, a6] t := h.set 0 x0
 have h2 : Blk ((w.setCell ⟨g, 0, none⟩ x0).setCell ⟨g, 1, none⟩ x1) g #[x0, x1, a2, a3, a4, a5, a6] t := h1.set 1 x1
 have h3 : Blk (((w.setCell ⟨g, 0, none⟩ x0).setCell ⟨g, 1, none⟩ x1).setCell ⟨g, 2, none⟩ x2) g #[x0, x1, x2, a3, a4, a5, a6] t := h2.set 2 x2
 have h4 : Blk ((((w.setCell ⟨g, 0, none⟩ x0).setCell ⟨g, 1, none⟩ x1).setCell ⟨g, 2, none⟩ x2).setCell ⟨g, 3, none⟩ x3) g #[x0, x1, x2, x3, a4, a5, a6] t := h3.set 3 x3
 have h5 : Blk (((((w.setCell ⟨g, 0, none⟩ x0).setCell ⟨g, 1, none⟩ x1).setCell ⟨g, 2, none⟩ x2).setCell ⟨g, 3, none⟩ x3).setCell ⟨g, 4, none⟩ x4) g #[x0, x1, x2, x3, x4, a5, a6] t := h4.set 4 x4
 have h6 : Blk ((((((w.setCell ⟨g, 0, none⟩ x0).setCell ⟨g, 1, none⟩ x1).setCell ⟨g, 2, none⟩ x2).setCell ⟨g, 3, none⟩ x3).setCell ⟨g, 4, none⟩ x4).setCell ⟨g, 5, none⟩ x5) g #[x0, x1, x2, x3, x4, x5, a6] t := h5.set 5 x5
 have h7 : Blk (((((((w.setCell ⟨g, 0, none⟩ x0).setCell ⟨g, 1, none⟩ x1).setCell ⟨g, 2, none⟩ x2).setCell ⟨g, 3, none⟩ x3).setCell ⟨g, 4, none⟩ x4).setCell ⟨g, 5, none⟩ x5).setCell ⟨g, 6, none⟩ x6) g #[x0, x1, x2, x3, x4, x5, x6] t := h6.set 6 x6
 exact ⟨⟨h.cell 0 _ rfl, h.free 0⟩, ⟨h1.cell 1 _ rfl, h1.free 1⟩, ⟨h2.cell 2 _ rfl, h2.free 2⟩, ⟨h3.cell 3 _ rfl, h3.free 3⟩, ⟨h4.cell 4 _ rfl, h4.free 4⟩, ⟨h5.cell 5 _ rfl, h5.free 5⟩, ⟨h6.cell 6 _ rfl, h6.free 6⟩, h7.cell 0 _ rfl, h7.cell 1 _ rfl, h7.cell 2 _ rfl, h7.cell 3 _ rfl, h7.cell 4 _ rfl, h7.cell 5 _ rfl, h7.cell 6 _ rfl⟩
theorem belowC7 {w w' : World} {B g : Nat} (h : Below B w w') (hg : B ≤ g) (x0 x1 x2 x3 x4 x5 x6 : Value) : Below B w (((((((w'.setCell ⟨g, 0, none⟩ x0).setCell ⟨g, 1, none⟩ x1).setCell ⟨g, 2, none⟩ x2).setCell ⟨g, 3, none⟩ x3).setCell ⟨g, 4, none⟩ x4).setCell ⟨g, 5, none⟩ x5).setCell ⟨g, 6, none⟩ x6) := (((((((h.setCell hg _).setCell hg _).setCell hg _).setCell hg _).setCell hg _).setCell hg _).setCell hg _)
theorem cellsC7 {w : World} {g : Nat} {a0 a1 a2 a3 a4 a5 a6 : Value} {t : TypeId} (h : Blk w g #[a0, a1, a2, a3, a4, a5, a6] t) : w.cell? ⟨g, 0, none⟩ = some a0 ∧ w.cell? ⟨g, 1, none⟩ = some a1 ∧ w.cell? ⟨g, 2, none⟩ = some a2 ∧ w.cell? ⟨g, 3, none⟩ = some a3 ∧ w.cell? ⟨g, 4, none⟩ = some a4 ∧ w.cell? ⟨g, 5, none⟩ = some a5 ∧ w.cell? ⟨g, 6, none⟩ = some a6 := ⟨h.cell 0 _ rfl, h.cell 1 _ rfl, h.cell 2 _ rfl, h.cell 3 _ rfl, h.cell 4 _ rfl, h.cell 5 _ rfl, h.cell 6 _ rfl⟩
end Go.Proofs.YtgbepickfhbknaaGreatDoor
namespace Go.Proofs.YtgbepickfhbknaaGreatDoor
open Go.ChangeShapes Go.WideShapes Go.ChangeAt Go.RowKit Go.PlainAid
set_option linter.unusedVariables false
def lackP : List PanicEntry := [{ v := .iface 9 (.string ⟨#[97, 32, 112, 97, 114, 116, 32, 108, 97, 99, 107, 115]⟩), recovered := false }]
def PKeep (g : Nat) (w w' : World) : Prop := Below g w w' ∧ ∀ b, b ≠ g → b < w.heap.size → w'.heap[b]? = w.heap[b]?
theorem PKeep.of {g : Nat} {w w' : World} (h : Below w.heap.size w w') (hg : g ≤ w.heap.size) : PKeep g w w' := ⟨h.mono hg, fun b _ hb => h.block b hb⟩
theorem PKeep.refl (g : Nat) (w : World) : PKeep g w w := ⟨Below.refl _ _, fun _ _ _ => rfl⟩
theorem PKeep.trans {g : Nat} {w w' w'' : World} (h : PKeep g w w') (h' : PKeep g w' w'') : PKeep g w w'' := ⟨h.1.trans h'.1, fun b hb hl => by rw [h'.2 b hb (Nat.lt_of_lt_of_le hl h.1.size), h.2 b hb hl]⟩
theorem PKeep.set {g : Nat} {w w' : World} (h : PKeep g w w') (i : Nat) (x : Value) : PKeep g w (w'.setCell ⟨g, i, none⟩ x) := ⟨h.1.setCell (Nat.le_refl _) _, fun b hb hl => by rw [Below.heap_setCell _ _ _ _ hb]; exact h.2 b hb hl⟩
theorem PKeep.setNew {g k : Nat} {w w' : World} (h : PKeep g w w') (hk : w.heap.size ≤ k) (hg : g ≤ k) (i : Nat) (x : Value) : PKeep g w (w'.setCell ⟨k, i, none⟩ x) := ⟨h.1.setCell hg _, fun b hb hl => by rw [Below.heap_setCell _ _ _ _ (show b ≠ k by omega)]; exact h.2 b hb hl⟩
theorem PKeep.alloc {g : Nat} {w w' : World} (h : PKeep g w w') (hg : g < w.heap.size) (o : Obj) : PKeep g w (w'.alloc o) := ⟨h.1.alloc (by have := h.1.size; omega) _, fun b hb hl => by rw [Below.heap_alloc _ _ _ (by have := h.1.size; omega)]; exact h.2 b hb hl⟩
theorem PKeep.cell {g : Nat} {w w' : World} (h : PKeep g w w') {p : Addr} (hp : p.block ≠ g) (hl : p.block < w.heap.size) : w'.cell? p = w.cell? p := World.cell?_of_block (w := w) (h.2 p.block hp hl)
theorem PKeep.frozen {g : Nat} {w w' : World} (h : PKeep g w w') {p : Addr} (hp : p.block ≠ g) (hl : p.block < w.heap.size) : w'.frozen? p = w.frozen? p := World.frozen?_of_block (w := w) (h.2 p.block hp hl)
def Prt (w : World) (g : Nat) (t : ByteArray) : Prop := w.heap[g]? = some (.cells #[.string t] 48 (0, 0))
theorem Prt.lt {w : World} {g : Nat} {t : ByteArray} (h : Prt w g t) : g < w.heap.size := lt_of_block h
theorem Prt.cell {w : World} {g : Nat} {t : ByteArray} (h : Prt w g t) : w.cell? ⟨g, 0, none⟩ = some (.string t) := by
 rw [cell_of_row _ _ 0 _ _ _ h]; rfl
theorem Prt.free {w : World} {g : Nat} {t : ByteArray} (h : Prt w g t) : w.frozen? ⟨g, 0, none⟩ = false := frozen_of_row w g 0 _ _ h
theorem Prt.put {w : World} {g : Nat} {t : ByteArray} (h : Prt w g t) (u : ByteArray) : Prt (w.setCell ⟨g, 0, none⟩ (.string u)) g u := heap_setCell_same w g 0 _ _ (.string u) h
theorem Prt.on {w w' : World} {g : Nat} {t : ByteArray} (h : Prt w g t) (hb : Below w.heap.size w w') : Prt w' g t := (hb.block g h.lt).trans h
theorem Prt.alloc {w : World} {g : Nat} {t : ByteArray} (h : Prt w g t) (o : Obj) : Prt (w.alloc o) g t := (Below.heap_alloc w o g h.lt).trans h
theorem need_yes (w : World) : Calls Tryz.prog 21 #[.bool true] w fun e w' => e = .returned (.tuple #[]) ∧ w = w' := by
 go_enter Tryz.func21, Tryz.ntmps21
 go_wp2
 first | go_end0 | exact bodyPost_ret (results_none rfl _ _ _) rfl ⟨rfl, rfl⟩
 exact ⟨rfl, rfl⟩
theorem need_no (w : World) : Calls Tryz.prog 21 #[.bool false] w fun e w' => e = .panicked lackP ∧ w = w' := by
 go_enter Tryz.func21, Tryz.ntmps21
 go_wp2
 exact ⟨rfl, rfl, rfl⟩
set_option maxHeartbeats 1000000 in
theorem takeText_yes (g : Nat) (t : ByteArray) (m : Nat) (w : World) (hp : Prt w g t) (hm : m ≤ t.size) (ht : t.size ≤ 1048576) :
  Calls Tryz.prog 27 #[.pointer (some ⟨g, 0, none⟩), .int .i64 (m : Int)] w fun e w' => e = .returned (.string (t.extract 0 m)) ∧ w.setCell ⟨g, 0, none⟩ (.string (t.extract m t.size)) = w' := by
 have q1 : (m : Int) ≤ (t.size : Int) := by omega
 have q2 : (t.size : Int) ≤ 1048576 := by omega
 have hc := hp.cell
 have hf := hp.free
 clear hp hm ht
 go_enter Tryz.func27, Tryz.ntmps27
 go_wp2_with fail
 refine (need_yes _).mono ?_
 rintro e w1 ⟨rfl, rfl⟩
 go_wp2_with fail
 go_ret
 exact ⟨rfl, rfl⟩
set_option maxHeartbeats 1000000 in
theorem takeText_no (g : Nat) (t : ByteArray) (m : Int) (w : World) (hp : Prt w g t) (hm : (t.size : Int) < m) (ht : t.size ≤ 1048576) :
  Calls Tryz.prog 27 #[.pointer (some ⟨g, 0, none⟩), .int .i64 m] w fun e w' => e = .panicked lackP ∧ w = w' := by
 have q2 : (t.size : Int) ≤ 1048576 := by omega
 have q3 : decide (m ≤ (t.size : Int)) = false := decide_eq_false (by omega)
 have hc := hp.cell
 clear hp ht
 go_enter Tryz.func27, Tryz.ntmps27
 go_wp2_with fail
 refine (need_no _).mono ?_
 rintro e w1 ⟨rfl, rfl⟩
 go_wp2_with fail
 exact ⟨rfl, rfl, rfl⟩
set_option maxHeartbeats 1000000 in
theorem takeRest (g : Nat) (t : ByteArray) (w : World) (hp : Prt w g t) (ht : t.size ≤ 1048576) :
  Calls Tryz.prog 28 #[.pointer (some ⟨g, 0, none⟩)] w fun e w' => e = .returned (.string t) ∧ w.setCell ⟨g, 0, none⟩ (.string ByteArray.empty) = w' := by
 have c := takeText_yes g t t.size w hp (Nat.le_refl _) ht
 have e0 : t.extract t.size t.size = ByteArray.empty := by simp
 rw [ByteArray.extract_zero_size, e0] at c
 clear e0
 have q2 : (t.size : Int) ≤ 1048576 := by omega
 have hc := hp.cell
 clear hp ht
 go_enter Tryz.func28, Tryz.ntmps28
 go_wp2_with fail
 refine c.mono ?_
 rintro e w1 ⟨rfl, rfl⟩
 go_wp2_with fail
 go_ret
 exact ⟨rfl, rfl⟩
set_option maxHeartbeats 1000000 in
theorem takeVar (g : Nat) (t : ByteArray) (w : World) (hp : Prt w g t) (ht : t.size ≤ 1048576) :
  Calls Tryz.prog 19 #[.pointer (some ⟨g, 0, none⟩)] w fun e w' => (∃ k, FindV t k ∧ e = .returned (.int .i64 (vvS t 0 k : Int)) ∧ w.setCell ⟨g, 0, none⟩ (.string (t.extract k t.size)) = w') ∨ ((∀ k, ¬ FindV t k) ∧ e = .panicked lackP ∧ w = w') := by
 have c := impl_readVar t w ht
 have q2 : (t.size : Int) ≤ 1048576 := by omega
 have hc := hp.cell
 have hf := hp.free
 clear hp ht
 go_enter Tryz.func19, Tryz.ntmps19
 go_wp2_with fail
 refine c.mono ?_
 rintro e w1 ⟨hR, rfl⟩
 rcases hR with ⟨k, hk, rfl⟩ | ⟨hno, rfl⟩
 ·have HK : Hid (FindV t k) := hk
  have k1 := hk.1
  have k3 := hk.2.2.1
  have q3 : (0 : Int) < (k : Int) := by omega
  have q4 : (k : Int) ≤ (t.size : Int) := by omega
  have q5 : decide (0 < k) = true := decide_eq_true (by omega)
  clear hk
  generalize hz : (vvS t 0 k : Int) = z
  have HZ : Hid ((vvS t 0 k : Int) = z) := hz
  clear hz
  go_wp2_with fail
  refine (need_yes _).mono ?_
  rintro e w1 ⟨rfl, rfl⟩
  go_wp2_with fail
  go_ret
  exact .inl ⟨k, HK.out, by rw [HZ.out]; rfl, rfl⟩
 ·have HN : Hid (∀ k, ¬ FindV t k) := hno
  clear hno
  go_wp2_with fail
  refine (need_no _).mono ?_
  rintro e w1 ⟨rfl, rfl⟩
  go_wp2_with fail
  exact ⟨rfl, .inr ⟨HN.out, rfl, rfl⟩⟩
theorem PKeep.blk {g b : Nat} {w w' : World} {cs : Array Value} {t : TypeId} (h : PKeep g w w') (hb : Blk w b cs t) (hne : b ≠ g) : Blk w' b cs t := (h.2 b hne hb.lt).trans hb
theorem PKeep.below {g : Nat} {w w' w'' : World} (h : PKeep g w w') (hg : g < w.heap.size) (hb : Below w'.heap.size w' w'') : PKeep g w w'' := h.trans (PKeep.of hb (by have := h.1.size; omega))
theorem takeVarF (g : Nat) (s : ByteArray) (n : Nat) (w : World) (hp : Prt w g (lf s n)) (hs : s.size ≤ 1048576) :
  Calls Tryz.prog 19 #[.pointer (some ⟨g, 0, none⟩)] w fun e w' => ((∃ k, FindV (lf s n) k ∧ e = .returned (.int .i64 (vvS (lf s n) 0 k : Int)) ∧ Prt w' g (lf s (n + k))) ∨ ((∀ k, ¬ FindV (lf s n) k) ∧ e = .panicked lackP)) ∧ PKeep g w w' := by
 refine (takeVar g (lf s n) w hp (by rw [lf_size]; omega)).mono ?_
 rintro e w' (⟨k, hk, rfl, rfl⟩ | ⟨hn, rfl, rfl⟩)
 ·refine ⟨.inl ⟨k, hk, rfl, ?_⟩, (PKeep.refl g w).set 0 _⟩
  rw [lf_lf]
  exact hp.put _
 ·exact ⟨.inr ⟨hn, rfl⟩, PKeep.refl g w⟩
theorem takeRestF (g : Nat) (s : ByteArray) (n : Nat) (w : World) (hp : Prt w g (lf s n)) (hs : s.size ≤ 1048576) :
  Calls Tryz.prog 28 #[.pointer (some ⟨g, 0, none⟩)] w fun e w' => e = .returned (.string (lf s n)) ∧ PKeep g w w' := by
 refine (takeRest g (lf s n) w hp (by rw [lf_size]; omega)).mono ?_
 rintro e w' ⟨rfl, rfl⟩
 exact ⟨rfl, (PKeep.refl g w).set 0 _⟩
theorem RdF.snoc {s : ByteArray} {a k n m : Nat} {l : List Int} (h : RdF s a k l n) (hf : FindV (lf s n) m) : RdF s a (k + 1) (l ++ [(vvS (lf s n) 0 m : Int)]) (n + m) := ⟨l, n, m, h, hf, rfl, rfl⟩
end Go.Proofs.YtgbepickfhbknaaGreatDoor
