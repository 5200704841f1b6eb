/- OpI RtCallI BkReadS OpS RtCall LawCallOk RtArg -/
import Derived.Test.YtedmdilabbolaaaDoorRows
import Derived.Test.YtedmdilabbolaaaDoorQc3
import Derived.Test.YtedmdilabbolaaaDoorQc4
import Derived.Test.YtedmdilabbolaaaDoorQc1
import Derived.WalkKit
import Derived.ProofKit
import Derived.OpenShut
import Derived.Below
import Derived.WalkSmall
import Derived.WalkLawsBesides
import Derived.Outline
import Derived.BigQuiet
import Derived.Deep.QuietTactic
import Derived.Handy
import Derived.Deep.Cut
import Derived.Deep.CutRange
import Derived.Laws.StructEq
import Derived.Deep.Slices
import Derived.ChangeSlices
import Derived.ChangeArms
open List (setIfInBounds_toArray set_cons_zero set_cons_succ)
namespace Go.Proofs.YtedmdilabbolaaaDoor
open Go.ChangeShapes Go.WideShapes Go.ChangeAt Go.RowKit Go.PlainAid
set_option linter.unusedVariables false
set_option maxHeartbeats 4000000 in
theorem implOpOk_1 (k:ByteArray) (f t:Int) (d:ByteArray) (w:World) (hk:k.size≤maxLen):Calls Tryd.prog 9 #[vOp ⟨1,k,f,t,d⟩] w fun e w'=>e=.returned (.bool (opOk ⟨1,k,f,t,d⟩))∧Below w.heap.size w w':=by
 have HE:Hid (opOk ⟨1,k,f,t,d⟩=(spanB f t&&emB k&&emB d)):=by unfold Hid opOk;simp
 have HB:Hid (Below w.heap.size w (w.alloc (.cells #[.int .i64 1,.string k,.int .i64 f,.int .i64 t,.string d] 29))):=below_a1 _ _
 have cS:=implSpanOk f t
 have cI:=inI f 0 1099511627776
 have cH:=inI f 0 100000
 have cK:=fun wx=>implIsKey k wx hk
 clear hk
 rw[show decide (KOk k)=keyB k from by unfold keyB;first | rfl | congr] at cK
 unfold vOp
 simp only
 by_cases hk:k=⟨#[]⟩
 ·subst hk
  rw[em_nil] at HE
  by_cases hd:d=⟨#[]⟩
  ·subst hd
   rw[em_nil] at HE
   go_enter Tryd.func9,Tryd.ntmps9
   go_wp2_with fail
   refine (cS _).mono ?_
   rintro e w' ⟨rfl,rfl⟩
   go_wp2_with fail
   go_ret
   exact ⟨by rw[HE.out];first | rfl | simp,HB.out⟩
  ·obtain ⟨ed1,ed2,ed3,ed4⟩:=em_facts hd
   rw[ed4] at HE
   clear ed4 hd
   go_enter Tryd.func9,Tryd.ntmps9
   go_wp2_with fail
   go_ret
   exact ⟨by rw[HE.out];first | rfl | simp,HB.out⟩
 ·obtain ⟨ek1,ek2,ek3,ek4⟩:=em_facts hk
  rw[ek4] at HE
  clear ek4 hk
  by_cases hd:d=⟨#[]⟩
  ·subst hd
   rw[em_nil] at HE
   go_enter Tryd.func9,Tryd.ntmps9
   go_wp2_with fail
   go_ret
   exact ⟨by rw[HE.out];first | rfl | simp,HB.out⟩
  ·obtain ⟨ed1,ed2,ed3,ed4⟩:=em_facts hd
   rw[ed4] at HE
   clear ed4 hd
   go_enter Tryd.func9,Tryd.ntmps9
   go_wp2_with fail
   go_ret
   exact ⟨by rw[HE.out];first | rfl | simp,HB.out⟩
set_option maxHeartbeats 4000000 in
theorem implOpOk_2 (k:ByteArray) (f t:Int) (d:ByteArray) (w:World) (hk:k.size≤maxLen):Calls Tryd.prog 9 #[vOp ⟨2,k,f,t,d⟩] w fun e w'=>e=.returned (.bool (opOk ⟨2,k,f,t,d⟩))∧Below w.heap.size w w':=by
 have HE:Hid (opOk ⟨2,k,f,t,d⟩=(inRg f 0 1099511627776&&emB k&&zB t&&emB d)):=by unfold Hid opOk;simp
 have HB:Hid (Below w.heap.size w (w.alloc (.cells #[.int .i64 2,.string k,.int .i64 f,.int .i64 t,.string d] 29))):=below_a1 _ _
 have cS:=implSpanOk f t
 have cI:=inI f 0 1099511627776
 have cH:=inI f 0 100000
 have cK:=fun wx=>implIsKey k wx hk
 clear hk
 rw[show decide (KOk k)=keyB k from by unfold keyB;first | rfl | congr] at cK
 unfold vOp
 simp only
 by_cases hk:k=⟨#[]⟩
 ·subst hk
  rw[em_nil] at HE
  by_cases ht:t=0
  ·subst ht
   rw[z_nil] at HE
   by_cases hd:d=⟨#[]⟩
   ·subst hd
    rw[em_nil] at HE
    go_enter Tryd.func9,Tryd.ntmps9
    go_wp2_with fail
    refine (cI _).mono ?_
    rintro e w' ⟨rfl,rfl⟩
    go_wp2_with fail
    go_ret
    exact ⟨by rw[HE.out];first | rfl | simp,HB.out⟩
   ·obtain ⟨ed1,ed2,ed3,ed4⟩:=em_facts hd
    rw[ed4] at HE
    clear ed4 hd
    go_enter Tryd.func9,Tryd.ntmps9
    go_wp2_with fail
    go_ret
    exact ⟨by rw[HE.out];first | rfl | simp,HB.out⟩
  ·obtain ⟨et1,et2,et4⟩:=z_facts ht
   rw[et4] at HE
   clear et4 ht
   by_cases hd:d=⟨#[]⟩
   ·subst hd
    rw[em_nil] at HE
    go_enter Tryd.func9,Tryd.ntmps9
    go_wp2_with fail
    go_ret
    exact ⟨by rw[HE.out];first | rfl | simp,HB.out⟩
   ·obtain ⟨ed1,ed2,ed3,ed4⟩:=em_facts hd
    rw[ed4] at HE
    clear ed4 hd
    go_enter Tryd.func9,Tryd.ntmps9
    go_wp2_with fail
    go_ret
    exact ⟨by rw[HE.out];first | rfl | simp,HB.out⟩
 ·obtain ⟨ek1,ek2,ek3,ek4⟩:=em_facts hk
  rw[ek4] at HE
  clear ek4 hk
  by_cases ht:t=0
  ·subst ht
   rw[z_nil] at HE
   by_cases hd:d=⟨#[]⟩
   ·subst hd
    rw[em_nil] at HE
    go_enter Tryd.func9,Tryd.ntmps9
    go_wp2_with fail
    go_ret
    exact ⟨by rw[HE.out];first | rfl | simp,HB.out⟩
   ·obtain ⟨ed1,ed2,ed3,ed4⟩:=em_facts hd
    rw[ed4] at HE
    clear ed4 hd
    go_enter Tryd.func9,Tryd.ntmps9
    go_wp2_with fail
    go_ret
    exact ⟨by rw[HE.out];first | rfl | simp,HB.out⟩
  ·obtain ⟨et1,et2,et4⟩:=z_facts ht
   rw[et4] at HE
   clear et4 ht
   by_cases hd:d=⟨#[]⟩
   ·subst hd
    rw[em_nil] at HE
    go_enter Tryd.func9,Tryd.ntmps9
    go_wp2_with fail
    go_ret
    exact ⟨by rw[HE.out];first | rfl | simp,HB.out⟩
   ·obtain ⟨ed1,ed2,ed3,ed4⟩:=em_facts hd
    rw[ed4] at HE
    clear ed4 hd
    go_enter Tryd.func9,Tryd.ntmps9
    go_wp2_with fail
    go_ret
    exact ⟨by rw[HE.out];first | rfl | simp,HB.out⟩
set_option maxHeartbeats 4000000 in
theorem implOpOk_3 (k:ByteArray) (f t:Int) (d:ByteArray) (w:World) (hk:k.size≤maxLen):Calls Tryd.prog 9 #[vOp ⟨3,k,f,t,d⟩] w fun e w'=>e=.returned (.bool (opOk ⟨3,k,f,t,d⟩))∧Below w.heap.size w w':=by
 have HE:Hid (opOk ⟨3,k,f,t,d⟩=(inRg f 0 100000&&emB k&&zB t&&emB d)):=by unfold Hid opOk;simp
 have HB:Hid (Below w.heap.size w (w.alloc (.cells #[.int .i64 3,.string k,.int .i64 f,.int .i64 t,.string d] 29))):=below_a1 _ _
 have cS:=implSpanOk f t
 have cI:=inI f 0 1099511627776
 have cH:=inI f 0 100000
 have cK:=fun wx=>implIsKey k wx hk
 clear hk
 rw[show decide (KOk k)=keyB k from by unfold keyB;first | rfl | congr] at cK
 unfold vOp
 simp only
 by_cases hk:k=⟨#[]⟩
 ·subst hk
  rw[em_nil] at HE
  by_cases ht:t=0
  ·subst ht
   rw[z_nil] at HE
   by_cases hd:d=⟨#[]⟩
   ·subst hd
    rw[em_nil] at HE
    go_enter Tryd.func9,Tryd.ntmps9
    go_wp2_with fail
    refine (cH _).mono ?_
    rintro e w' ⟨rfl,rfl⟩
    go_wp2_with fail
    go_ret
    exact ⟨by rw[HE.out];first | rfl | simp,HB.out⟩
   ·obtain ⟨ed1,ed2,ed3,ed4⟩:=em_facts hd
    rw[ed4] at HE
    clear ed4 hd
    go_enter Tryd.func9,Tryd.ntmps9
    go_wp2_with fail
    go_ret
    exact ⟨by rw[HE.out];first | rfl | simp,HB.out⟩
  ·obtain ⟨et1,et2,et4⟩:=z_facts ht
   rw[et4] at HE
   clear et4 ht
   by_cases hd:d=⟨#[]⟩
   ·subst hd
    rw[em_nil] at HE
    go_enter Tryd.func9,Tryd.ntmps9
    go_wp2_with fail
    go_ret
    exact ⟨by rw[HE.out];first | rfl | simp,HB.out⟩
   ·obtain ⟨ed1,ed2,ed3,ed4⟩:=em_facts hd
    rw[ed4] at HE
    clear ed4 hd
    go_enter Tryd.func9,Tryd.ntmps9
    go_wp2_with fail
    go_ret
    exact ⟨by rw[HE.out];first | rfl | simp,HB.out⟩
 ·obtain ⟨ek1,ek2,ek3,ek4⟩:=em_facts hk
  rw[ek4] at HE
  clear ek4 hk
  by_cases ht:t=0
  ·subst ht
   rw[z_nil] at HE
   by_cases hd:d=⟨#[]⟩
   ·subst hd
    rw[em_nil] at HE
    go_enter Tryd.func9,Tryd.ntmps9
    go_wp2_with fail
    go_ret
    exact ⟨by rw[HE.out];first | rfl | simp,HB.out⟩
   ·obtain ⟨ed1,ed2,ed3,ed4⟩:=em_facts hd
    rw[ed4] at HE
    clear ed4 hd
    go_enter Tryd.func9,Tryd.ntmps9
    go_wp2_with fail
    go_ret
    exact ⟨by rw[HE.out];first | rfl | simp,HB.out⟩
  ·obtain ⟨et1,et2,et4⟩:=z_facts ht
   rw[et4] at HE
   clear et4 ht
   by_cases hd:d=⟨#[]⟩
   ·subst hd
    rw[em_nil] at HE
    go_enter Tryd.func9,Tryd.ntmps9
    go_wp2_with fail
    go_ret
    exact ⟨by rw[HE.out];first | rfl | simp,HB.out⟩
   ·obtain ⟨ed1,ed2,ed3,ed4⟩:=em_facts hd
    rw[ed4] at HE
    clear ed4 hd
    go_enter Tryd.func9,Tryd.ntmps9
    go_wp2_with fail
    go_ret
    exact ⟨by rw[HE.out];first | rfl | simp,HB.out⟩
set_option maxHeartbeats 4000000 in
theorem implOpOk_6 (k:ByteArray) (f t:Int) (d:ByteArray) (w:World) (hk:k.size≤maxLen):Calls Tryd.prog 9 #[vOp ⟨6,k,f,t,d⟩] w fun e w'=>e=.returned (.bool (opOk ⟨6,k,f,t,d⟩))∧Below w.heap.size w w':=by
 have HE:Hid (opOk ⟨6,k,f,t,d⟩=(inRg f 0 1099511627776&&emB k&&zB t&&emB d)):=by unfold Hid opOk;simp
 have HB:Hid (Below w.heap.size w (w.alloc (.cells #[.int .i64 6,.string k,.int .i64 f,.int .i64 t,.string d] 29))):=below_a1 _ _
 have cS:=implSpanOk f t
 have cI:=inI f 0 1099511627776
 have cH:=inI f 0 100000
 have cK:=fun wx=>implIsKey k wx hk
 clear hk
 rw[show decide (KOk k)=keyB k from by unfold keyB;first | rfl | congr] at cK
 unfold vOp
 simp only
 by_cases hk:k=⟨#[]⟩
 ·subst hk
  rw[em_nil] at HE
  by_cases ht:t=0
  ·subst ht
   rw[z_nil] at HE
   by_cases hd:d=⟨#[]⟩
   ·subst hd
    rw[em_nil] at HE
    go_enter Tryd.func9,Tryd.ntmps9
    go_wp2_with fail
    refine (cI _).mono ?_
    rintro e w' ⟨rfl,rfl⟩
    go_wp2_with fail
    go_ret
    exact ⟨by rw[HE.out];first | rfl | simp,HB.out⟩
   ·obtain ⟨ed1,ed2,ed3,ed4⟩:=em_facts hd
    rw[ed4] at HE
    clear ed4 hd
    go_enter Tryd.func9,Tryd.ntmps9
    go_wp2_with fail
    go_ret
    exact ⟨by rw[HE.out];first | rfl | simp,HB.out⟩
  ·obtain ⟨et1,et2,et4⟩:=z_facts ht
   rw[et4] at HE
   clear et4 ht
   by_cases hd:d=⟨#[]⟩
   ·subst hd
    rw[em_nil] at HE
    go_enter Tryd.func9,Tryd.ntmps9
    go_wp2_with fail
    go_ret
    exact ⟨by rw[HE.out];first | rfl | simp,HB.out⟩
   ·obtain ⟨ed1,ed2,ed3,ed4⟩:=em_facts hd
    rw[ed4] at HE
    clear ed4 hd
    go_enter Tryd.func9,Tryd.ntmps9
    go_wp2_with fail
    go_ret
    exact ⟨by rw[HE.out];first | rfl | simp,HB.out⟩
 ·obtain ⟨ek1,ek2,ek3,ek4⟩:=em_facts hk
  rw[ek4] at HE
  clear ek4 hk
  by_cases ht:t=0
  ·subst ht
   rw[z_nil] at HE
   by_cases hd:d=⟨#[]⟩
   ·subst hd
    rw[em_nil] at HE
    go_enter Tryd.func9,Tryd.ntmps9
    go_wp2_with fail
    go_ret
    exact ⟨by rw[HE.out];first | rfl | simp,HB.out⟩
   ·obtain ⟨ed1,ed2,ed3,ed4⟩:=em_facts hd
    rw[ed4] at HE
    clear ed4 hd
    go_enter Tryd.func9,Tryd.ntmps9
    go_wp2_with fail
    go_ret
    exact ⟨by rw[HE.out];first | rfl | simp,HB.out⟩
  ·obtain ⟨et1,et2,et4⟩:=z_facts ht
   rw[et4] at HE
   clear et4 ht
   by_cases hd:d=⟨#[]⟩
   ·subst hd
    rw[em_nil] at HE
    go_enter Tryd.func9,Tryd.ntmps9
    go_wp2_with fail
    go_ret
    exact ⟨by rw[HE.out];first | rfl | simp,HB.out⟩
   ·obtain ⟨ed1,ed2,ed3,ed4⟩:=em_facts hd
    rw[ed4] at HE
    clear ed4 hd
    go_enter Tryd.func9,Tryd.ntmps9
    go_wp2_with fail
    go_ret
    exact ⟨by rw[HE.out];first | rfl | simp,HB.out⟩
set_option maxHeartbeats 4000000 in
theorem implOpOk_7 (k:ByteArray) (f t:Int) (d:ByteArray) (w:World) (hk:k.size≤maxLen):Calls Tryd.prog 9 #[vOp ⟨7,k,f,t,d⟩] w fun e w'=>e=.returned (.bool (opOk ⟨7,k,f,t,d⟩))∧Below w.heap.size w w':=by
 have HE:Hid (opOk ⟨7,k,f,t,d⟩=(emB k&&zB f&&zB t&&emB d)):=by unfold Hid opOk;simp
 have HB:Hid (Below w.heap.size w (w.alloc (.cells #[.int .i64 7,.string k,.int .i64 f,.int .i64 t,.string d] 29))):=below_a1 _ _
 have cS:=implSpanOk f t
 have cI:=inI f 0 1099511627776
 have cH:=inI f 0 100000
 have cK:=fun wx=>implIsKey k wx hk
 clear hk
 rw[show decide (KOk k)=keyB k from by unfold keyB;first | rfl | congr] at cK
 unfold vOp
 simp only
 by_cases hk:k=⟨#[]⟩
 ·subst hk
  rw[em_nil] at HE
  by_cases hf:f=0
  ·subst hf
   rw[z_nil] at HE
   by_cases ht:t=0
   ·subst ht
    rw[z_nil] at HE
    by_cases hd:d=⟨#[]⟩
    ·subst hd
     rw[em_nil] at HE
     go_enter Tryd.func9,Tryd.ntmps9
     go_wp2_with fail
     go_ret
     exact ⟨by rw[HE.out];first | rfl | simp,HB.out⟩
    ·obtain ⟨ed1,ed2,ed3,ed4⟩:=em_facts hd
     rw[ed4] at HE
     clear ed4 hd
     go_enter Tryd.func9,Tryd.ntmps9
     go_wp2_with fail
     go_ret
     exact ⟨by rw[HE.out];first | rfl | simp,HB.out⟩
   ·obtain ⟨et1,et2,et4⟩:=z_facts ht
    rw[et4] at HE
    clear et4 ht
    by_cases hd:d=⟨#[]⟩
    ·subst hd
     rw[em_nil] at HE
     go_enter Tryd.func9,Tryd.ntmps9
     go_wp2_with fail
     go_ret
     exact ⟨by rw[HE.out];first | rfl | simp,HB.out⟩
    ·obtain ⟨ed1,ed2,ed3,ed4⟩:=em_facts hd
     rw[ed4] at HE
     clear ed4 hd
     go_enter Tryd.func9,Tryd.ntmps9
     go_wp2_with fail
     go_ret
     exact ⟨by rw[HE.out];first | rfl | simp,HB.out⟩
  ·obtain ⟨ef1,ef2,ef4⟩:=z_facts hf
   rw[ef4] at HE
   clear ef4 hf
   by_cases ht:t=0
   ·subst ht
    rw[z_nil] at HE
    by_cases hd:d=⟨#[]⟩
    ·subst hd
     rw[em_nil] at HE
     go_enter Tryd.func9,Tryd.ntmps9
     go_wp2_with fail
     go_ret
     exact ⟨by rw[HE.out];first | rfl | simp,HB.out⟩
    ·obtain ⟨ed1,ed2,ed3,ed4⟩:=em_facts hd
     rw[ed4] at HE
     clear ed4 hd
     go_enter Tryd.func9,Tryd.ntmps9
     go_wp2_with fail
     go_ret
     exact ⟨by rw[HE.out];first | rfl | simp,HB.out⟩
   ·obtain ⟨et1,et2,et4⟩:=z_facts ht
    rw[et4] at HE
    clear et4 ht
    by_cases hd:d=⟨#[]⟩
    ·subst hd
     rw[em_nil] at HE
     go_enter Tryd.func9,Tryd.ntmps9
     go_wp2_with fail
     go_ret
     exact ⟨by rw[HE.out];first | rfl | simp,HB.out⟩
    ·obtain ⟨ed1,ed2,ed3,ed4⟩:=em_facts hd
     rw[ed4] at HE
     clear ed4 hd
     go_enter Tryd.func9,Tryd.ntmps9
     go_wp2_with fail
     go_ret
     exact ⟨by rw[HE.out];first | rfl | simp,HB.out⟩
 ·obtain ⟨ek1,ek2,ek3,ek4⟩:=em_facts hk
  rw[ek4] at HE
  clear ek4 hk
  by_cases hf:f=0
  ·subst hf
   rw[z_nil] at HE
   by_cases ht:t=0
   ·subst ht
    rw[z_nil] at HE
    by_cases hd:d=⟨#[]⟩
    ·subst hd
     rw[em_nil] at HE
     go_enter Tryd.func9,Tryd.ntmps9
     go_wp2_with fail
     go_ret
     exact ⟨by rw[HE.out];first | rfl | simp,HB.out⟩
    ·obtain ⟨ed1,ed2,ed3,ed4⟩:=em_facts hd
     rw[ed4] at HE
     clear ed4 hd
     go_enter Tryd.func9,Tryd.ntmps9
     go_wp2_with fail
     go_ret
     exact ⟨by rw[HE.out];first | rfl | simp,HB.out⟩
   ·obtain ⟨et1,et2,et4⟩:=z_facts ht
    rw[et4] at HE
    clear et4 ht
    by_cases hd:d=⟨#[]⟩
    ·subst hd
     rw[em_nil] at HE
     go_enter Tryd.func9,Tryd.ntmps9
     go_wp2_with fail
     go_ret
     exact ⟨by rw[HE.out];first | rfl | simp,HB.out⟩
    ·obtain ⟨ed1,ed2,ed3,ed4⟩:=em_facts hd
     rw[ed4] at HE
     clear ed4 hd
     go_enter Tryd.func9,Tryd.ntmps9
     go_wp2_with fail
     go_ret
     exact ⟨by rw[HE.out];first | rfl | simp,HB.out⟩
  ·obtain ⟨ef1,ef2,ef4⟩:=z_facts hf
   rw[ef4] at HE
   clear ef4 hf
   by_cases ht:t=0
   ·subst ht
    rw[z_nil] at HE
    by_cases hd:d=⟨#[]⟩
    ·subst hd
     rw[em_nil] at HE
     go_enter Tryd.func9,Tryd.ntmps9
     go_wp2_with fail
     go_ret
     exact ⟨by rw[HE.out];first | rfl | simp,HB.out⟩
    ·obtain ⟨ed1,ed2,ed3,ed4⟩:=em_facts hd
     rw[ed4] at HE
     clear ed4 hd
     go_enter Tryd.func9,Tryd.ntmps9
     go_wp2_with fail
     go_ret
     exact ⟨by rw[HE.out];first | rfl | simp,HB.out⟩
   ·obtain ⟨et1,et2,et4⟩:=z_facts ht
    rw[et4] at HE
    clear et4 ht
    by_cases hd:d=⟨#[]⟩
    ·subst hd
     rw[em_nil] at HE
     go_enter Tryd.func9,Tryd.ntmps9
     go_wp2_with fail
     go_ret
     exact ⟨by rw[HE.out];first | rfl | simp,HB.out⟩
    ·obtain ⟨ed1,ed2,ed3,ed4⟩:=em_facts hd
     rw[ed4] at HE
     clear ed4 hd
     go_enter Tryd.func9,Tryd.ntmps9
     go_wp2_with fail
     go_ret
     exact ⟨by rw[HE.out];first | rfl | simp,HB.out⟩
set_option maxHeartbeats 4000000 in
theorem implOpOk_5 (k:ByteArray) (f t:Int) (d:ByteArray) (w:World) (hk:k.size≤maxLen):Calls Tryd.prog 9 #[vOp ⟨5,k,f,t,d⟩] w fun e w'=>e=.returned (.bool (opOk ⟨5,k,f,t,d⟩))∧Below w.heap.size w w':=by
 have HE:Hid (opOk ⟨5,k,f,t,d⟩=(keyB k&&spanB f t&&emB d)):=by unfold Hid opOk;simp
 have HB:Hid (Below w.heap.size w (w.alloc (.cells #[.int .i64 5,.string k,.int .i64 f,.int .i64 t,.string d] 29))):=below_a1 _ _
 have cS:=implSpanOk f t
 have cI:=inI f 0 1099511627776
 have cH:=inI f 0 100000
 have cK:=fun wx=>implIsKey k wx hk
 clear hk
 rw[show decide (KOk k)=keyB k from by unfold keyB;first | rfl | congr] at cK
 unfold vOp
 simp only
 by_cases hd:d=⟨#[]⟩
 ·subst hd
  rw[em_nil] at HE
  go_enter Tryd.func9,Tryd.ntmps9
  go_wp2_with fail
  refine (cK _).mono ?_
  rintro e w1 ⟨rfl,rfl⟩
  cases hc:keyB k<;>rw[hc] at HE
  ·go_wp2_with fail
   go_ret
   exact ⟨by rw[HE.out];first | rfl | simp,HB.out⟩
  ·go_wp2_with fail
   refine (cS _).mono ?_
   rintro e w' ⟨rfl,rfl⟩
   go_wp2_with fail
   go_ret
   exact ⟨by rw[HE.out];first | rfl | simp,HB.out⟩
 ·obtain ⟨ed1,ed2,ed3,ed4⟩:=em_facts hd
  rw[ed4] at HE
  clear ed4 hd
  go_enter Tryd.func9,Tryd.ntmps9
  go_wp2_with fail
  go_ret
  exact ⟨by rw[HE.out];first | rfl | simp,HB.out⟩
set_option maxHeartbeats 4000000 in
theorem implOpOk_4 (k:ByteArray) (f t:Int) (d:ByteArray) (w:World) (hk:k.size≤maxLen) (hd:d.size≤1048576) (hst:SumTab w) (a0 a1 a2:Addr) (he:Errs w a0 a1 a2):Calls Tryd.prog 9 #[vOp ⟨4,k,f,t,d⟩] w fun e w'=>e=.returned (.bool (opOk ⟨4,k,f,t,d⟩))∧Below w.heap.size w w':=by
 have HE:Hid (opOk ⟨4,k,f,t,d⟩=(keyB k&&rdB d&&zB f&&zB t)):=by unfold Hid opOk;simp
 obtain ⟨X,hX⟩:∃ X,X=w.alloc (.cells #[.int .i64 4,.string k,.int .i64 f,.int .i64 t,.string d] 29):=⟨_,rfl⟩
 have HBX:Hid (Below w.heap.size w X):=by rw[hX];exact below_a1 _ _
 have KX:Hid (CellO X w.heap.size ⟨4,k,f,t,d⟩):=by rw[hX];exact CellO.new w ⟨4,k,f,t,d⟩ _
 have cR:=implReadBlock d X hd (hst.on HBX.out) a0 a1 a2 (he.on HBX.out)
 have cK:=fun wx=>implIsKey k wx hk
 clear hk hd hst he
 rw[show decide (KOk k)=keyB k from by unfold keyB;first | rfl | congr] at cK
 unfold vOp
 simp only
 go_enter Tryd.func9,Tryd.ntmps9
 go_wp2_with fail
 rw[← hX]
 clear hX
 refine cR.mono ?_
 rintro e w1 ⟨⟨u,l,ok,hA,rfl,hO⟩,hb⟩
 have hr:=rdB_is hA
 rw[hr] at HE
 have HB:Hid (Below w.heap.size w w1):=HBX.out.trans (hb.mono HBX.out.size)
 obtain ⟨⟨g0,g1,g2,g3,g4⟩,_⟩:=KX.out.on hb KX.out.2
 simp only at g0 g1 g2 g3 g4
 obtain ⟨Au,mu,cu,rfl⟩:=hO.shape
 clear hA hO hb hr cR KX
 by_cases hf:f=0
 ·subst hf
  rw[z_nil] at HE
  by_cases ht:t=0
  ·subst ht
   rw[z_nil] at HE
   go_wp2_with fail
   refine (cK _).mono ?_
   rintro e w' ⟨rfl,rfl⟩
   cases hc:keyB k<;>rw[hc] at HE
   ·go_wp2_with fail
    go_ret
    exact ⟨by rw[HE.out];first | rfl | simp,HB.out⟩
   ·go_wp2_with fail
    go_ret
    exact ⟨by rw[HE.out];first | rfl | simp,HB.out⟩
  ·obtain ⟨et1,et2,et4⟩:=z_facts ht
   rw[et4] at HE
   clear et4 ht
   go_wp2_with fail
   go_ret
   exact ⟨by rw[HE.out];first | rfl | simp,HB.out⟩
 ·obtain ⟨ef1,ef2,ef4⟩:=z_facts hf
  rw[ef4] at HE
  clear ef4 hf
  by_cases ht:t=0
  ·subst ht
   rw[z_nil] at HE
   go_wp2_with fail
   go_ret
   exact ⟨by rw[HE.out];first | rfl | simp,HB.out⟩
  ·obtain ⟨et1,et2,et4⟩:=z_facts ht
   rw[et4] at HE
   clear et4 ht
   go_wp2_with fail
   go_ret
   exact ⟨by rw[HE.out];first | rfl | simp,HB.out⟩
set_option maxHeartbeats 4000000 in
theorem implOpOk_no (x:Opx) (w:World) (h:x.kind≠1∧x.kind≠2∧x.kind≠3∧x.kind≠4∧x.kind≠5∧x.kind≠6∧x.kind≠7):Calls Tryd.prog 9 #[vOp x] w fun e w'=>e=.returned (.bool (opOk x))∧Below w.heap.size w w':=by
 obtain ⟨n,k,f,t,d⟩:=x
 simp only at h
 obtain ⟨h1,h2,h3,h4,h5,h6,h7⟩:=h
 have HE:Hid (opOk ⟨n,k,f,t,d⟩=false):=by unfold Hid opOk;simp[h1,h2,h3,h4,h5,h6,h7]
 have HB:Hid (Below w.heap.size w (w.alloc (.cells #[.int .i64 n,.string k,.int .i64 f,.int .i64 t,.string d] 29))):=below_a1 _ _
 have z1:(n == 1)=false:=by simpa using h1
 have z2:(n == 2)=false:=by simpa using h2
 have z3:(n == 3)=false:=by simpa using h3
 have z4:(n == 4)=false:=by simpa using h4
 have z5:(n == 5)=false:=by simpa using h5
 have z6:(n == 6)=false:=by simpa using h6
 have z7:(n == 7)=false:=by simpa using h7
 clear h1 h2 h3 h4 h5 h6 h7
 unfold vOp
 simp only
 go_enter Tryd.func9,Tryd.ntmps9
 go_wp2_with fail
 go_ret
 exact ⟨by rw[HE.out];rfl,HB.out⟩
theorem implOpOk (x:Opx) (w:World) (hk:x.key.size≤maxLen) (hd:x.data.size≤1048576) (hst:SumTab w) (a0 a1 a2:Addr) (he:Errs w a0 a1 a2):Calls Tryd.prog 9 #[vOp x] w fun e w'=>e=.returned (.bool (opOk x))∧Below w.heap.size w w':=by
 by_cases h:x.kind≠1∧x.kind≠2∧x.kind≠3∧x.kind≠4∧x.kind≠5∧x.kind≠6∧x.kind≠7
 ·exact implOpOk_no x w h
 ·obtain ⟨n,k,f,t,d⟩:=x
  simp only at h hk hd
  have:n=1∨n=2∨n=3∨n=4∨n=5∨n=6∨n=7:=by omega
  rcases this with rfl | rfl | rfl | rfl | rfl | rfl | rfl
  ·exact implOpOk_1 k f t d w hk
  ·exact implOpOk_2 k f t d w hk
  ·exact implOpOk_3 k f t d w hk
  ·exact implOpOk_4 k f t d w hk hd hst a0 a1 a2 he
  ·exact implOpOk_5 k f t d w hk
  ·exact implOpOk_6 k f t d w hk
  ·exact implOpOk_7 k f t d w hk
end Go.Proofs.YtedmdilabbolaaaDoor
namespace Go.Proofs.YtedmdilabbolaaaDoor
open Go.ChangeShapes Go.WideShapes Go.ChangeAt Go.RowKit Go.PlainAid
set_option linter.unusedVariables false
set_option maxHeartbeats 1000000 in
theorem implCallOk_1 (ky:ByteArray) (f t:Int) (d:ByteArray) (w:World) (hk:ky.size≤maxLen) (hd:d.size≤1048576) (hst:SumTab w) (a0 a1 a2:Addr) (he:Errs w a0 a1 a2):Calls Tryd.prog 7 #[vOp ⟨1,ky,f,t,d⟩] w fun e w'=>e=.returned (.bool (callOk ⟨1,ky,f,t,d⟩))∧Below w.heap.size w w':=by
 have HE:Hid (callOk ⟨1,ky,f,t,d⟩=opOk ⟨4,ky,f,t,d⟩):=rfl
 obtain ⟨X,hX⟩:∃ X,X=(w.alloc (.cells #[.int .i64 1,.string ky,.int .i64 f,.int .i64 t,.string d] 26)):=⟨_,rfl⟩
 have HB:Hid (Below w.heap.size w X):=by unfold Hid;rw[hX];exact (Below.refl _ w).alloc (Nat.le_refl _) _
 have c1:=implOpOk ⟨4,ky,f,t,d⟩ X hk hd (hst.on HB.out) a0 a1 a2 (he.on HB.out)
 unfold vOp at c1 ⊢
 clear hst he
 go_enter Tryd.func7,Tryd.ntmps7
 go_wp2_with fail
 rw[← hX]
 clear hX
 refine c1.mono ?_
 rintro e w1 ⟨rfl,hb⟩
 have B1:Hid (Below w.heap.size w w1):=HB.out.trans (hb.mono HB.out.size)
 clear hb c1
 generalize opOk ⟨4,ky,f,t,d⟩=bb at *
 go_wp2_with fail
 go_ret
 exact ⟨by rw[HE.out];rfl,B1.out⟩
set_option maxHeartbeats 1000000 in
theorem implCallOk_2 (ky:ByteArray) (f t:Int) (d:ByteArray) (w:World) (hk:ky.size≤maxLen) (hd:d.size≤1048576) (hst:SumTab w) (a0 a1 a2:Addr) (he:Errs w a0 a1 a2):Calls Tryd.prog 7 #[vOp ⟨2,ky,f,t,d⟩] w fun e w'=>e=.returned (.bool (callOk ⟨2,ky,f,t,d⟩))∧Below w.heap.size w w':=by
 have HE:Hid (callOk ⟨2,ky,f,t,d⟩=opOk ⟨5,ky,f,t,d⟩):=rfl
 obtain ⟨X,hX⟩:∃ X,X=(w.alloc (.cells #[.int .i64 2,.string ky,.int .i64 f,.int .i64 t,.string d] 26)):=⟨_,rfl⟩
 have HB:Hid (Below w.heap.size w X):=by unfold Hid;rw[hX];exact (Below.refl _ w).alloc (Nat.le_refl _) _
 have c1:=implOpOk ⟨5,ky,f,t,d⟩ X hk hd (hst.on HB.out) a0 a1 a2 (he.on HB.out)
 unfold vOp at c1 ⊢
 clear hst he
 go_enter Tryd.func7,Tryd.ntmps7
 go_wp2_with fail
 rw[← hX]
 clear hX
 refine c1.mono ?_
 rintro e w1 ⟨rfl,hb⟩
 have B1:Hid (Below w.heap.size w w1):=HB.out.trans (hb.mono HB.out.size)
 clear hb c1
 generalize opOk ⟨5,ky,f,t,d⟩=bb at *
 go_wp2_with fail
 go_ret
 exact ⟨by rw[HE.out];rfl,B1.out⟩
set_option maxHeartbeats 1000000 in
theorem implCallOk_3 (ky:ByteArray) (f t:Int) (d:ByteArray) (w:World) (hk:ky.size≤maxLen) (hd:d.size≤1048576) (hst:SumTab w) (a0 a1 a2:Addr) (he:Errs w a0 a1 a2):Calls Tryd.prog 7 #[vOp ⟨3,ky,f,t,d⟩] w fun e w'=>e=.returned (.bool (callOk ⟨3,ky,f,t,d⟩))∧Below w.heap.size w w':=by
 have HE:Hid (callOk ⟨3,ky,f,t,d⟩=opOk ⟨2,ky,f,t,d⟩):=rfl
 obtain ⟨X,hX⟩:∃ X,X=(w.alloc (.cells #[.int .i64 3,.string ky,.int .i64 f,.int .i64 t,.string d] 26)):=⟨_,rfl⟩
 have HB:Hid (Below w.heap.size w X):=by unfold Hid;rw[hX];exact (Below.refl _ w).alloc (Nat.le_refl _) _
 have c1:=implOpOk ⟨2,ky,f,t,d⟩ X hk hd (hst.on HB.out) a0 a1 a2 (he.on HB.out)
 unfold vOp at c1 ⊢
 clear hst he
 go_enter Tryd.func7,Tryd.ntmps7
 go_wp2_with fail
 rw[← hX]
 clear hX
 refine c1.mono ?_
 rintro e w1 ⟨rfl,hb⟩
 have B1:Hid (Below w.heap.size w w1):=HB.out.trans (hb.mono HB.out.size)
 clear hb c1
 generalize opOk ⟨2,ky,f,t,d⟩=bb at *
 go_wp2_with fail
 go_ret
 exact ⟨by rw[HE.out];rfl,B1.out⟩
set_option maxHeartbeats 1000000 in
theorem implCallOk_4 (ky:ByteArray) (f t:Int) (d:ByteArray) (w:World) (hk:ky.size≤maxLen) (hd:d.size≤1048576) (hst:SumTab w) (a0 a1 a2:Addr) (he:Errs w a0 a1 a2):Calls Tryd.prog 7 #[vOp ⟨4,ky,f,t,d⟩] w fun e w'=>e=.returned (.bool (callOk ⟨4,ky,f,t,d⟩))∧Below w.heap.size w w':=by
 have HE:Hid (callOk ⟨4,ky,f,t,d⟩=opOk ⟨3,ky,f,t,d⟩):=rfl
 obtain ⟨X,hX⟩:∃ X,X=(w.alloc (.cells #[.int .i64 4,.string ky,.int .i64 f,.int .i64 t,.string d] 26)):=⟨_,rfl⟩
 have HB:Hid (Below w.heap.size w X):=by unfold Hid;rw[hX];exact (Below.refl _ w).alloc (Nat.le_refl _) _
 have c1:=implOpOk ⟨3,ky,f,t,d⟩ X hk hd (hst.on HB.out) a0 a1 a2 (he.on HB.out)
 unfold vOp at c1 ⊢
 clear hst he
 go_enter Tryd.func7,Tryd.ntmps7
 go_wp2_with fail
 rw[← hX]
 clear hX
 refine c1.mono ?_
 rintro e w1 ⟨rfl,hb⟩
 have B1:Hid (Below w.heap.size w w1):=HB.out.trans (hb.mono HB.out.size)
 clear hb c1
 generalize opOk ⟨3,ky,f,t,d⟩=bb at *
 go_wp2_with fail
 go_ret
 exact ⟨by rw[HE.out];rfl,B1.out⟩
set_option maxHeartbeats 1000000 in
theorem implCallOk_no (k:Int) (ky:ByteArray) (f t:Int) (d:ByteArray) (w:World) (hk:ky.size≤maxLen) (hd:d.size≤1048576) (hst:SumTab w) (a0 a1 a2:Addr) (he:Errs w a0 a1 a2) (h1:¬ k=1) (h2:¬ k=2) (h3:¬ k=3) (h4:¬ k=4):Calls Tryd.prog 7 #[vOp ⟨k,ky,f,t,d⟩] w fun e w'=>e=.returned (.bool (callOk ⟨k,ky,f,t,d⟩))∧Below w.heap.size w w':=by
 have HE:Hid (callOk ⟨k,ky,f,t,d⟩=opOk ⟨0,ky,f,t,d⟩):=by unfold Hid;show opOk ⟨mapK k,ky,f,t,d⟩=_;rw[mapK_facts h1 h2 h3 h4]
 obtain ⟨X,hX⟩:∃ X,X=(w.alloc (.cells #[.int .i64 k,.string ky,.int .i64 f,.int .i64 t,.string d] 26)):=⟨_,rfl⟩
 have HB:Hid (Below w.heap.size w X):=by unfold Hid;rw[hX];exact (Below.refl _ w).alloc (Nat.le_refl _) _
 have c1:=implOpOk ⟨0,ky,f,t,d⟩ X hk hd (hst.on HB.out) a0 a1 a2 (he.on HB.out)
 unfold vOp at c1 ⊢
 clear hst he
 go_enter Tryd.func7,Tryd.ntmps7
 go_wp2_with fail
 rw[← hX]
 clear hX
 refine c1.mono ?_
 rintro e w1 ⟨rfl,hb⟩
 have B1:Hid (Below w.heap.size w w1):=HB.out.trans (hb.mono HB.out.size)
 clear hb c1
 generalize opOk ⟨0,ky,f,t,d⟩=bb at *
 go_wp2_with fail
 go_ret
 exact ⟨by rw[HE.out];rfl,B1.out⟩
theorem implCallOk (x:Opx) (w:World) (hk:x.key.size≤maxLen) (hd:x.data.size≤1048576) (hst:SumTab w) (a0 a1 a2:Addr) (he:Errs w a0 a1 a2):Calls Tryd.prog 7 #[vOp x] w fun e w'=>e=.returned (.bool (callOk x))∧Below w.heap.size w w':=by
 obtain ⟨k,ky,f,t,d⟩:=x
 by_cases h1:k=1
 ·subst h1;exact implCallOk_1 ky f t d w hk hd hst a0 a1 a2 he
 by_cases h2:k=2
 ·subst h2;exact implCallOk_2 ky f t d w hk hd hst a0 a1 a2 he
 by_cases h3:k=3
 ·subst h3;exact implCallOk_3 ky f t d w hk hd hst a0 a1 a2 he
 by_cases h4:k=4
 ·subst h4;exact implCallOk_4 ky f t d w hk hd hst a0 a1 a2 he
 exact implCallOk_no k ky f t d w hk hd hst a0 a1 a2 he h1 h2 h3 h4
end Go.Proofs.YtedmdilabbolaaaDoor
namespace Go.Proofs.YtedmdilabbolaaaDoor
open Go.ChangeShapes Go.WideShapes Go.ChangeAt Go.RowKit Go.PlainAid
set_option linter.unusedVariables false
set_option maxRecDepth 20000 in
set_option maxHeartbeats 4000000 in
theorem specReadBlock (s:ByteArray) (w:World) (hs:s.size≤1048576):Calls Tryd.prog 11 #[.string s] w fun e w'=>(∃ u l ok,RbAns s l ok∧e=.returned (.tuple #[u,.bool ok])∧Owns w' w.heap.size 45 2 u (ptR l))∧Below w.heap.size w w':=by
 obtain ⟨k0,c0,hu,hk0⟩:=unf_body s
 have HK0:Hid ((code s=0∧k0=8+rdv s 4)∨(code s≠0∧k0=0∧bodyR s=⟨#[]⟩)):=hk0
 have cU:=fun wx=>spec_unframe s wx hs
 rw[hu] at cU
 have hbz:=bodyR_size s
 have qs:(s.size:Int)≤1048576:=by omega
 have q0:(k0:Int)≤3000:=by
  rcases hk0 with ⟨h1,h2⟩ | ⟨_,h2,_⟩
  ·have:=((code_zero s).1 h1).2.2.1;omega
  ·omega
 have E0:Hid (Owns (w.alloc (.cells #[] 45)) w.heap.size 45 2 (.slice (some ⟨w.heap.size,0,none⟩) 0 0) (ptR [])):=Owns.empty w _ _ _ (Nat.le_refl _)
 have B0:Hid (Below w.heap.size w (w.alloc (.cells #[] 45))):=(Below.refl _ _).alloc (Nat.le_refl _) _
 clear hu hk0
 go_enter Tryd.func11,Tryd.ntmps11
 go_wp2_with fail
 generalize w.alloc (.cells #[] 45)=w0 at *
 refine (cU w0).mono ?_
 rintro e w1 ⟨rfl,hb⟩
 have B1:Hid (Below w.heap.size w w1):=B0.out.trans (hb.mono B0.out.size)
 have E1:Hid (Owns w1 w.heap.size 45 2 (.slice (some ⟨w.heap.size,0,none⟩) 0 0) (ptR [])):=E0.out.on hb
 clear hb cU
 have cV:=spec_readVar (bodyR s) w1 (by omega)
 go_wp2_with fail
 refine cV.mono ?_
 rintro e w2 ⟨hRV,hb⟩
 obtain ⟨n,k,hRd,rfl⟩:=hRV.rd
 have hle:=hRd.le
 have HR:Hid (RdV (bodyR s) n k):=hRd
 have B2:Hid (Below w.heap.size w w2):=B1.out.trans (hb.mono B1.out.size)
 have E2:Hid (Owns w2 w.heap.size 45 2 (.slice (some ⟨w.heap.size,0,none⟩) 0 0) (ptR [])):=E1.out.on hb
 have qk:(k:Int)≤7:=by omega
 have qb:((bodyR s).size:Int)≤2000:=by omega
 have qkb:(k:Int)≤((bodyR s).size:Int):=by omega
 have hkb:k≤(bodyR s).size:=hle.1
 have HKG:Hid (∀ m,Good s m→k≠0∧k0=s.size):=fun m hm=>by
  have h1:=(HR.out.one hm.steps.rn).2
  have h2:=vF_pos 6 m.length
  obtain ⟨r1,r2,_⟩:=hm.read
  rcases HK0.out with ⟨_,h3⟩ | ⟨h3,_⟩
  ·exact ⟨by omega,by omega⟩
  ·exact absurd r1 h3
 clear hRd hRV cV hle hb
 by_cases hk1:k=0
 ·have HNO:Hid (∀ m,¬ Good s m):=fun m hm=>(HKG.out m hm).1 hk1
  subst hk1
  go_wp2_with fail
  go_ret2
  exact ⟨⟨_,[],false,.inr ⟨rfl,rfl,HNO.out⟩,rfl,E2.out⟩,B2.out⟩
 have d0:decide (k=0)=false:=decide_eq_false hk1
 have d1:((k:Int) == 0)=false:=by rw[beq_eq_false_iff_ne];omega
 by_cases hk2:k0≠s.size
 ·have HNO:Hid (∀ m,¬ Good s m):=fun m hm=>hk2 (HKG.out m hm).2
  have d2:((k0:Int) == (s.size:Int))=false:=by rw[beq_eq_false_iff_ne];omega
  have d3:¬ k0=s.size:=hk2
  go_wp2_with fail
  go_ret2
  exact ⟨⟨_,[],false,.inr ⟨rfl,rfl,HNO.out⟩,rfl,E2.out⟩,B2.out⟩
 have hk2':k0=s.size:=Decidable.not_not.1 hk2
 have HK2:Hid (k0=s.size):=hk2'
 have d2:((k0:Int) == (s.size:Int))=true:=beq_iff_eq.2 (by omega)
 clear hk2
 have cT:=specReadTimesA ((bodyR s).extract k (bodyR s).size) n w2 (by rw[ByteArray.size_extract];omega)
 subst hk2'
 go_wp2_with fail
 refine cT.mono ?_
 rintro e w3 ⟨⟨t,a,ut,hAT,rfl,hNT⟩,hb⟩
 have HAT:Hid (RdAns showT rowT ((bodyR s).extract k (bodyR s).size) n t a):=hAT
 have hsh:=hAT.short rowT_length
 have LT:Hid (t.length≤60):=hsh.1
 have hak:k+a≤(bodyR s).size:=by have h2:=hsh.2;rw[ByteArray.size_extract] at h2;omega
 have B3:Hid (Below w.heap.size w w3):=B2.out.trans (hb.mono B2.out.size)
 have E3:Hid (Owns w3 w.heap.size 45 2 (.slice (some ⟨w.heap.size,0,none⟩) 0 0) (ptR [])):=E2.out.on hb
 have NT:Hid (Nums w3 w2.heap.size ut t):=hNT
 have qa:(k:Int)+(a:Int)≤((bodyR s).size:Int):=by omega
 have qa1:(a:Int)≤2000:=by omega
 have ena:((k:Int)+(a:Int)).toNat=k+a:=by omega
 have HAG:Hid (∀ m,Good s m→a≠0):=fun m hm=>by
  have hst:=hm.steps
  obtain ⟨e1,e2⟩:=HR.out.one hst.rn
  subst e1
  subst e2
  have h1:=(HAT.out.one hst.rt).2
  have h2:=cat_pos (tPiece (ts m)) m.length hm.1 (vF_pos _ _)
  omega
 clear hAT hNT hb cT hsh
 by_cases ha:a=0
 ·have HNO:Hid (∀ m,¬ Good s m):=fun m hm=>HAG.out m hm ha
  subst ha
  go_wp2_with fail
  go_ret2
  exact ⟨⟨_,[],false,.inr ⟨rfl,rfl,HNO.out⟩,rfl,E3.out⟩,B3.out⟩
 have d4:decide (a=0)=false:=decide_eq_false ha
 have d5:((a:Int) == 0)=false:=by rw[beq_eq_false_iff_ne];omega
 have cW:=specReadValuesA ((bodyR s).extract (k+a) (bodyR s).size) n w3 (by rw[ByteArray.size_extract];omega)
 go_wp2_with fail
 refine cW.mono ?_
 rintro e w4 ⟨⟨v,b,uv,hAV,rfl,hNV⟩,hb⟩
 have HST:Hid (Steps s n k t a v b):=⟨HR.out,HAT.out,hAV⟩
 have hsv:=hAV.short rowV_length
 have LV:Hid (v.length≤60):=hsv.1
 have hbk:k+a+b≤(bodyR s).size:=by have h2:=hsv.2;rw[ByteArray.size_extract] at h2;omega
 have B4:Hid (Below w.heap.size w w4):=B3.out.trans (hb.mono B3.out.size)
 have E4:Hid (Owns w4 w.heap.size 45 2 (.slice (some ⟨w.heap.size,0,none⟩) 0 0) (ptR [])):=E3.out.on hb
 have NT4:Hid (Nums w4 w2.heap.size ut t):=NT.out.on hb
 have NV4:Hid (Nums w4 w3.heap.size uv v):=hNV
 have qb1:(b:Int)≤2000:=by omega
 have qab:(k:Int)+(a:Int)+(b:Int)≤((bodyR s).size:Int):=by omega
 clear hAV hNV hb cW NT hsv
 by_cases hb0:b=0
 ·have HNO:Hid (∀ m,¬ Good s m):=fun m hm=>by have:=(HST.out.good hm).2.2.2.2.2.2.1;omega
  subst hb0
  go_wp2_with fail
  go_ret2
  exact ⟨⟨_,[],false,.inr ⟨rfl,rfl,HNO.out⟩,rfl,E4.out⟩,B4.out⟩
 have d6:decide (b=0)=false:=decide_eq_false hb0
 have d7:((b:Int) == 0)=false:=by rw[beq_eq_false_iff_ne];omega
 by_cases hlen:k+a+b≠(bodyR s).size
 ·have HNO:Hid (∀ m,¬ Good s m):=fun m hm=>hlen (HST.out.good hm).2.2.2.2.2.2.2
  have d8:((k:Int)+(a:Int)+(b:Int) == ((bodyR s).size:Int))=false:=by rw[beq_eq_false_iff_ne];omega
  have d9:¬ (k:Int)+(a:Int)+(b:Int)=((bodyR s).size:Int):=by omega
  go_wp2_with fail
  go_ret2
  exact ⟨⟨_,[],false,.inr ⟨rfl,rfl,HNO.out⟩,rfl,E4.out⟩,B4.out⟩
 have hlen':k+a+b=(bodyR s).size:=Decidable.not_not.1 hlen
 have d8:((k:Int)+(a:Int)+(b:Int) == ((bodyR s).size:Int))=true:=beq_iff_eq.2 (by omega)
 have d10:((k:Int)+(a:Int)+(b:Int) != ((bodyR s).size:Int))=false:=by rw[bne,d8];rfl
 have hc:code s=0:=by
  rcases HK0.out with ⟨h1,_⟩ | ⟨_,_,h3⟩
  ·exact h1
  ·rw[h3] at hkb
   have:(ByteArray.mk #[]).size=0:=rfl
   omega
 have h8:8+rdv s 4=s.size:=by
  rcases HK0.out with ⟨_,h1⟩ | ⟨h1,_⟩
  ·omega
  ·exact absurd hc h1
 obtain ⟨hg,htv,hn⟩:=HST.out.back hc h8 hk1 ha hb0 hlen'
 have HG:Hid (Good s (zipP t v)):=hg
 have HZL:Hid ((zipP t v).length=t.length):=by unfold Hid;rw[zipP_length];omega
 have HZG:Hid (∀ k,k<t.length→k<v.length→(zipP t v).take (k+1)=(zipP t v).take k++[⟨t.getD k 0,v.getD k 0⟩]):=zipP_get t v
 subst hn
 obtain ⟨At,ct,rfl,_,_,h1⟩:=NT4.out.lies
 obtain ⟨Av,cv,rfl,_,_,h2⟩:=NV4.out.lies
 have HT:Hid (∀ j,j<t.length→∃ g off,At=some ⟨g,off,none⟩∧g<w4.heap.size∧w4.cell? ⟨g,off+j,none⟩=some (.int .i64 (t.getD j 0))):=h1
 have HV:Hid (∀ j,j<v.length→∃ g off,Av=some ⟨g,off,none⟩∧g<w4.heap.size∧w4.cell? ⟨g,off+j,none⟩=some (.int .i64 (v.getD j 0))):=h2
 have q9:(t.length:Int)≤60:=by have:=LT.out;omega
 clear h1 h2 hlen hg HAG HKG HK0 HK2 hbk
 generalize hm:v.length=m at *
 generalize hn:t.length=N at *
 subst htv
 clear hm hn
 go_wp2_with fail
 go_loopw [14,15] (fun v14 v15 wr=>∃ k:Nat,k≤N∧v15=.int .i64 (k:Int)∧Owns wr w4.heap.size 45 2 v14 (ptR ((zipP t v).take k))∧Below w4.heap.size w4 wr) (fun _ i _=>N - (intOf i).toNat)
 case atStart=>exact ⟨0,by omega,rfl,by rw[List.take_zero];exact Owns.empty w4 _ _ _ (Nat.le_refl _),(Below.refl _ _).alloc (Nat.le_refl _) _⟩
 case round =>
  clear hlen' d8 ena hc h8 hak hkb d0 d1 d2 d4 d5 d6 d7 hk1 ha hb0 qab qa qkb
  obtain ⟨k,hk,rfl,hO,hb⟩:=hrel
  have HO:Hid (Owns wr w4.heap.size 45 2 u14 (ptR ((zipP t v).take k))):=hO
  have HB1:Hid (Below w4.heap.size w4 wr):=hb
  clear hO hb
  by_cases hlt:k<N
  ·have q3:(k:Int)<(N:Int):=by omega
   obtain ⟨gt,ot,rfl,hgt,hc1⟩:=HT.out k hlt
   obtain ⟨gv,ov,rfl,hgv,hc2⟩:=HV.out k hlt
   have HZ:Hid ((zipP t v).take (k+1)=(zipP t v).take k++[⟨t.getD k 0,v.getD k 0⟩]):=HZG.out k hlt hlt
   rw[← HB1.out.cell (p:=⟨_,_,none⟩) hgt] at hc1
   rw[← HB1.out.cell (p:=⟨_,_,none⟩) hgv] at hc2
   generalize t.getD k 0=x at *
   generalize v.getD k 0=y at *
   have hz:w4.heap.size≤wr.drew.heap.size:=HB1.out.size
   obtain ⟨nA,nm,nc,w5,r5,hO5,hb5,hk5,_⟩:=run_append_row (P:=Tryd.prog) wr.drew 32 32 45 (.agg #[.int .i64 0,.int .i64 0]) 2 16 Tryd.underlying32 Tryd.infoPt rfl (by omega) w4.heap.size u14 (ptR ((zipP t v).take k)) (HO.out.kept fun _ _ _=>rfl) [.int .i64 x,.int .i64 y] rfl (pt_cells x y) (by rw[ptR_length,List.length_take];omega) (by omega) hz
   have B5:Hid (Below w4.heap.size w4 w5):=(HB1.out.drew).trans hb5
   have O5:Hid (Owns w5 w4.heap.size 45 2 (.slice nA nm nc) (ptR ((zipP t v).take (k+1)))):=by unfold Hid;rw[HZ.out,ptR_snoc'];exact hO5
   have S0:Hid (wr.drew.cell? ⟨gt,ot+k,none⟩=some (.int .i64 x)∧wr.drew.cell? ⟨gv,ov+k,none⟩=some (.int .i64 y)):=⟨hc1,hc2⟩
   clear hc1 hc2 hO5 hb5 hk5
   clear hgt hgv
   go_wp2_with fail
   refine wp_region_until (fun w'=>w'.cell? ⟨gt,ot+k,none⟩=some (.int .i64 x)∧w'.cell? ⟨gv,ov+k,none⟩=some (.int .i64 y)) (fun i=>i == 11||i == 12) 13 (by rfl) (by kernel_rfl) ?_
   refine tKf 0 S0.out ?_
   refine tKf 1 S0.out ?_
   refine tKf 2 S0.out ?_
   refine tKf 3 S0.out ?_
   refine tKf 4 S0.out ?_
   refine tKf 5 S0.out ?_
   refine tKf 6 S0.out ?_
   refine tKf 7 S0.out ?_
   refine tKf 8 S0.out ?_
   refine tKf 9 S0.out ?_
   refine uNe 10 (fun K hK=>?_)
   go_simp
   refine hK.out _ _ (fun _ h=>⟨cell_alloc_keep h.1 _,cell_alloc_keep h.2 _⟩) ?_
   clear hK K
   try simp only[Act.put,zQ1,zQ2,zQ3]
   refine uNe 11 (fun K hK=>?_)
   refine step_append_run (by rfl) (.tmp 77) (.tmp 87) 32 (by rfl) _ _ _ _ (by rfl) (by rfl) r5 ?_
   refine hK.out _ _ (fun h=>by cases h) ?_
   clear hK K
   try simp only[Act.put,zQ1,zQ2,zQ3]
   refine uNe 12 (fun K hK=>?_)
   go_simp
   refine hK.out _ _ (fun h=>by cases h) ?_
   clear hK K
   try simp only[Act.put,zQ1,zQ2,zQ3]
   refine until_done (by kernel_rfl) ?_ _
   go_wp2_with fail
   go_roundw
   case rel=>exact ⟨k+1,by omega,by go_num,O5.out,B5.out⟩
   case measure=>simp[intOf];omega
  ·obtain rfl:k=N:=by omega
   have hF:=HO.out
   rw[List.take_of_length_le (by rw[HZL.out];exact Nat.le_refl _)] at hF
   have HF:Hid (Owns wr w.heap.size 45 2 u14 (ptR (zipP t v))):=hF.mono B4.out.size
   have BF:Hid (Below w.heap.size w wr):=B4.out.trans (HB1.out.mono B4.out.size)
   clear hF HO
   go_wp2_with fail
   go_ret2
   exact ⟨⟨_,zipP t v,true,.inl ⟨rfl,HG.out⟩,rfl,HF.out⟩,BF.out⟩
end Go.Proofs.YtedmdilabbolaaaDoor
namespace Go.Proofs.YtedmdilabbolaaaDoor
open Go.ChangeShapes Go.WideShapes Go.ChangeAt Go.RowKit Go.PlainAid
set_option linter.unusedVariables false
set_option maxHeartbeats 8000000 in
theorem specOpOk_1 (k:ByteArray) (f t:Int) (d:ByteArray) (w:World) (hk:k.size≤maxLen):Calls Tryd.prog 8 #[vOp ⟨1,k,f,t,d⟩] w fun e w'=>e=.returned (.bool (opOk ⟨1,k,f,t,d⟩))∧Below w.heap.size w w':=by
 have HE:Hid (opOk ⟨1,k,f,t,d⟩=(spanB f t&&emB k&&emB d)):=by unfold Hid opOk;simp
 have HB:Hid (∀ o,Below w.heap.size w ((w.alloc (.cells #[.int .i64 1,.string k,.int .i64 f,.int .i64 t,.string d] 29)).alloc o)):=fun o=>((below_a1 _ _).alloc (by simp) o)
 have cI:=inS f 0 1099511627776
 have cH:=inS f 0 100000
 have cK:=fun wx=>specKey k wx hk
 clear hk
 rw[show decide (KOk k)=keyB k from by unfold keyB;first | rfl | congr] at cK
 unfold vOp
 simp only
 go_enter Tryd.func8,Tryd.ntmps8
 go_upto_region 1 with fail
 go_cut [3] from 8 to 22 (fun s3 wc=>s3=.bool (spanB f t)∧wc=w.alloc (.cells #[.int .i64 1,.string k,.int .i64 f,.int .i64 t,.string d] 29))
 case first =>
  clear HE HB
  by_cases h1:0≤f
  ·by_cases h2:f<t
   ·by_cases h3:t≤1099511627776
    ·go_wp2_with fail
     go_meet
     exact ⟨by simp[spanB, *],rfl⟩
    ·have d3:decide (t≤1099511627776)=false:=decide_eq_false h3
     go_wp2_with fail
     go_meet
     exact ⟨by simp[spanB, *],rfl⟩
   ·have d2:decide (f<t)=false:=decide_eq_false h2
    go_wp2_with fail
    go_meet
    exact ⟨by simp[spanB, *],rfl⟩
  ·have d1:decide (0≤f)=false:=decide_eq_false h1
   go_wp2_with fail
   go_meet
   exact ⟨by simp[spanB, *],rfl⟩
 case rest =>
  obtain ⟨rfl,rfl⟩:=hcut
  by_cases hk:k=⟨#[]⟩
  ·subst hk
   rw[em_nil] at HE
   by_cases hd:d=⟨#[]⟩
   ·subst hd
    rw[em_nil] at HE
    cases hc:spanB f t<;>rw[hc] at HE
    ·go_wp2_with fail
     go_ret
     exact ⟨by rw[HE.out];first | rfl | simp,HB.out _⟩
    ·go_wp2_with fail
     go_ret
     exact ⟨by rw[HE.out];first | rfl | simp,HB.out _⟩
   ·obtain ⟨ed1,ed2,ed3,ed4⟩:=em_facts hd
    rw[ed4] at HE
    clear ed4 hd
    cases hc:spanB f t<;>rw[hc] at HE
    ·go_wp2_with fail
     go_ret
     exact ⟨by rw[HE.out];first | rfl | simp,HB.out _⟩
    ·go_wp2_with fail
     go_ret
     exact ⟨by rw[HE.out];first | rfl | simp,HB.out _⟩
  ·obtain ⟨ek1,ek2,ek3,ek4⟩:=em_facts hk
   rw[ek4] at HE
   clear ek4 hk
   by_cases hd:d=⟨#[]⟩
   ·subst hd
    rw[em_nil] at HE
    cases hc:spanB f t<;>rw[hc] at HE
    ·go_wp2_with fail
     go_ret
     exact ⟨by rw[HE.out];first | rfl | simp,HB.out _⟩
    ·go_wp2_with fail
     go_ret
     exact ⟨by rw[HE.out];first | rfl | simp,HB.out _⟩
   ·obtain ⟨ed1,ed2,ed3,ed4⟩:=em_facts hd
    rw[ed4] at HE
    clear ed4 hd
    cases hc:spanB f t<;>rw[hc] at HE
    ·go_wp2_with fail
     go_ret
     exact ⟨by rw[HE.out];first | rfl | simp,HB.out _⟩
    ·go_wp2_with fail
     go_ret
     exact ⟨by rw[HE.out];first | rfl | simp,HB.out _⟩
set_option maxHeartbeats 8000000 in
theorem specOpOk_2 (k:ByteArray) (f t:Int) (d:ByteArray) (w:World) (hk:k.size≤maxLen):Calls Tryd.prog 8 #[vOp ⟨2,k,f,t,d⟩] w fun e w'=>e=.returned (.bool (opOk ⟨2,k,f,t,d⟩))∧Below w.heap.size w w':=by
 have HE:Hid (opOk ⟨2,k,f,t,d⟩=(inRg f 0 1099511627776&&emB k&&zB t&&emB d)):=by unfold Hid opOk;simp
 have HB:Hid (∀ o,Below w.heap.size w ((w.alloc (.cells #[.int .i64 2,.string k,.int .i64 f,.int .i64 t,.string d] 29)).alloc o)):=fun o=>((below_a1 _ _).alloc (by simp) o)
 have cI:=inS f 0 1099511627776
 have cH:=inS f 0 100000
 have cK:=fun wx=>specKey k wx hk
 clear hk
 rw[show decide (KOk k)=keyB k from by unfold keyB;first | rfl | congr] at cK
 unfold vOp
 simp only
 go_enter Tryd.func8,Tryd.ntmps8
 go_upto_region 1 with fail
 go_cut [3] from 8 to 22 (fun s3 wc=>s3=.bool (spanB f t)∧wc=w.alloc (.cells #[.int .i64 2,.string k,.int .i64 f,.int .i64 t,.string d] 29))
 case first =>
  clear HE HB
  by_cases h1:0≤f
  ·by_cases h2:f<t
   ·by_cases h3:t≤1099511627776
    ·go_wp2_with fail
     go_meet
     exact ⟨by simp[spanB, *],rfl⟩
    ·have d3:decide (t≤1099511627776)=false:=decide_eq_false h3
     go_wp2_with fail
     go_meet
     exact ⟨by simp[spanB, *],rfl⟩
   ·have d2:decide (f<t)=false:=decide_eq_false h2
    go_wp2_with fail
    go_meet
    exact ⟨by simp[spanB, *],rfl⟩
  ·have d1:decide (0≤f)=false:=decide_eq_false h1
   go_wp2_with fail
   go_meet
   exact ⟨by simp[spanB, *],rfl⟩
 case rest =>
  obtain ⟨rfl,rfl⟩:=hcut
  by_cases hk:k=⟨#[]⟩
  ·subst hk
   rw[em_nil] at HE
   by_cases ht:t=0
   ·subst ht
    rw[z_nil] at HE
    by_cases hd:d=⟨#[]⟩
    ·subst hd
     rw[em_nil] at HE
     go_wp2_with fail
     refine (cI _).mono ?_
     rintro e w' ⟨rfl,rfl⟩
     cases hc:inRg f 0 1099511627776<;>rw[hc] at HE
     ·go_wp2_with fail
      go_ret
      exact ⟨by rw[HE.out];first | rfl | simp,HB.out _⟩
     ·go_wp2_with fail
      go_ret
      exact ⟨by rw[HE.out];first | rfl | simp,HB.out _⟩
    ·obtain ⟨ed1,ed2,ed3,ed4⟩:=em_facts hd
     rw[ed4] at HE
     clear ed4 hd
     go_wp2_with fail
     refine (cI _).mono ?_
     rintro e w' ⟨rfl,rfl⟩
     cases hc:inRg f 0 1099511627776<;>rw[hc] at HE
     ·go_wp2_with fail
      go_ret
      exact ⟨by rw[HE.out];first | rfl | simp,HB.out _⟩
     ·go_wp2_with fail
      go_ret
      exact ⟨by rw[HE.out];first | rfl | simp,HB.out _⟩
   ·obtain ⟨et1,et2,et4⟩:=z_facts ht
    rw[et4] at HE
    clear et4 ht
    by_cases hd:d=⟨#[]⟩
    ·subst hd
     rw[em_nil] at HE
     go_wp2_with fail
     refine (cI _).mono ?_
     rintro e w' ⟨rfl,rfl⟩
     cases hc:inRg f 0 1099511627776<;>rw[hc] at HE
     ·go_wp2_with fail
      go_ret
      exact ⟨by rw[HE.out];first | rfl | simp,HB.out _⟩
     ·go_wp2_with fail
      go_ret
      exact ⟨by rw[HE.out];first | rfl | simp,HB.out _⟩
    ·obtain ⟨ed1,ed2,ed3,ed4⟩:=em_facts hd
     rw[ed4] at HE
     clear ed4 hd
     go_wp2_with fail
     refine (cI _).mono ?_
     rintro e w' ⟨rfl,rfl⟩
     cases hc:inRg f 0 1099511627776<;>rw[hc] at HE
     ·go_wp2_with fail
      go_ret
      exact ⟨by rw[HE.out];first | rfl | simp,HB.out _⟩
     ·go_wp2_with fail
      go_ret
      exact ⟨by rw[HE.out];first | rfl | simp,HB.out _⟩
  ·obtain ⟨ek1,ek2,ek3,ek4⟩:=em_facts hk
   rw[ek4] at HE
   clear ek4 hk
   by_cases ht:t=0
   ·subst ht
    rw[z_nil] at HE
    by_cases hd:d=⟨#[]⟩
    ·subst hd
     rw[em_nil] at HE
     go_wp2_with fail
     refine (cI _).mono ?_
     rintro e w' ⟨rfl,rfl⟩
     cases hc:inRg f 0 1099511627776<;>rw[hc] at HE
     ·go_wp2_with fail
      go_ret
      exact ⟨by rw[HE.out];first | rfl | simp,HB.out _⟩
     ·go_wp2_with fail
      go_ret
      exact ⟨by rw[HE.out];first | rfl | simp,HB.out _⟩
    ·obtain ⟨ed1,ed2,ed3,ed4⟩:=em_facts hd
     rw[ed4] at HE
     clear ed4 hd
     go_wp2_with fail
     refine (cI _).mono ?_
     rintro e w' ⟨rfl,rfl⟩
     cases hc:inRg f 0 1099511627776<;>rw[hc] at HE
     ·go_wp2_with fail
      go_ret
      exact ⟨by rw[HE.out];first | rfl | simp,HB.out _⟩
     ·go_wp2_with fail
      go_ret
      exact ⟨by rw[HE.out];first | rfl | simp,HB.out _⟩
   ·obtain ⟨et1,et2,et4⟩:=z_facts ht
    rw[et4] at HE
    clear et4 ht
    by_cases hd:d=⟨#[]⟩
    ·subst hd
     rw[em_nil] at HE
     go_wp2_with fail
     refine (cI _).mono ?_
     rintro e w' ⟨rfl,rfl⟩
     cases hc:inRg f 0 1099511627776<;>rw[hc] at HE
     ·go_wp2_with fail
      go_ret
      exact ⟨by rw[HE.out];first | rfl | simp,HB.out _⟩
     ·go_wp2_with fail
      go_ret
      exact ⟨by rw[HE.out];first | rfl | simp,HB.out _⟩
    ·obtain ⟨ed1,ed2,ed3,ed4⟩:=em_facts hd
     rw[ed4] at HE
     clear ed4 hd
     go_wp2_with fail
     refine (cI _).mono ?_
     rintro e w' ⟨rfl,rfl⟩
     cases hc:inRg f 0 1099511627776<;>rw[hc] at HE
     ·go_wp2_with fail
      go_ret
      exact ⟨by rw[HE.out];first | rfl | simp,HB.out _⟩
     ·go_wp2_with fail
      go_ret
      exact ⟨by rw[HE.out];first | rfl | simp,HB.out _⟩
set_option maxHeartbeats 8000000 in
theorem specOpOk_3 (k:ByteArray) (f t:Int) (d:ByteArray) (w:World) (hk:k.size≤maxLen):Calls Tryd.prog 8 #[vOp ⟨3,k,f,t,d⟩] w fun e w'=>e=.returned (.bool (opOk ⟨3,k,f,t,d⟩))∧Below w.heap.size w w':=by
 have HE:Hid (opOk ⟨3,k,f,t,d⟩=(inRg f 0 100000&&emB k&&zB t&&emB d)):=by unfold Hid opOk;simp
 have HB:Hid (∀ o,Below w.heap.size w ((w.alloc (.cells #[.int .i64 3,.string k,.int .i64 f,.int .i64 t,.string d] 29)).alloc o)):=fun o=>((below_a1 _ _).alloc (by simp) o)
 have cI:=inS f 0 1099511627776
 have cH:=inS f 0 100000
 have cK:=fun wx=>specKey k wx hk
 clear hk
 rw[show decide (KOk k)=keyB k from by unfold keyB;first | rfl | congr] at cK
 unfold vOp
 simp only
 go_enter Tryd.func8,Tryd.ntmps8
 go_upto_region 1 with fail
 go_cut [3] from 8 to 22 (fun s3 wc=>s3=.bool (spanB f t)∧wc=w.alloc (.cells #[.int .i64 3,.string k,.int .i64 f,.int .i64 t,.string d] 29))
 case first =>
  clear HE HB
  by_cases h1:0≤f
  ·by_cases h2:f<t
   ·by_cases h3:t≤1099511627776
    ·go_wp2_with fail
     go_meet
     exact ⟨by simp[spanB, *],rfl⟩
    ·have d3:decide (t≤1099511627776)=false:=decide_eq_false h3
     go_wp2_with fail
     go_meet
     exact ⟨by simp[spanB, *],rfl⟩
   ·have d2:decide (f<t)=false:=decide_eq_false h2
    go_wp2_with fail
    go_meet
    exact ⟨by simp[spanB, *],rfl⟩
  ·have d1:decide (0≤f)=false:=decide_eq_false h1
   go_wp2_with fail
   go_meet
   exact ⟨by simp[spanB, *],rfl⟩
 case rest =>
  obtain ⟨rfl,rfl⟩:=hcut
  by_cases hk:k=⟨#[]⟩
  ·subst hk
   rw[em_nil] at HE
   by_cases ht:t=0
   ·subst ht
    rw[z_nil] at HE
    by_cases hd:d=⟨#[]⟩
    ·subst hd
     rw[em_nil] at HE
     go_wp2_with fail
     refine (cH _).mono ?_
     rintro e w' ⟨rfl,rfl⟩
     cases hc:inRg f 0 100000<;>rw[hc] at HE
     ·go_wp2_with fail
      go_ret
      exact ⟨by rw[HE.out];first | rfl | simp,HB.out _⟩
     ·go_wp2_with fail
      go_ret
      exact ⟨by rw[HE.out];first | rfl | simp,HB.out _⟩
    ·obtain ⟨ed1,ed2,ed3,ed4⟩:=em_facts hd
     rw[ed4] at HE
     clear ed4 hd
     go_wp2_with fail
     refine (cH _).mono ?_
     rintro e w' ⟨rfl,rfl⟩
     cases hc:inRg f 0 100000<;>rw[hc] at HE
     ·go_wp2_with fail
      go_ret
      exact ⟨by rw[HE.out];first | rfl | simp,HB.out _⟩
     ·go_wp2_with fail
      go_ret
      exact ⟨by rw[HE.out];first | rfl | simp,HB.out _⟩
   ·obtain ⟨et1,et2,et4⟩:=z_facts ht
    rw[et4] at HE
    clear et4 ht
    by_cases hd:d=⟨#[]⟩
    ·subst hd
     rw[em_nil] at HE
     go_wp2_with fail
     refine (cH _).mono ?_
     rintro e w' ⟨rfl,rfl⟩
     cases hc:inRg f 0 100000<;>rw[hc] at HE
     ·go_wp2_with fail
      go_ret
      exact ⟨by rw[HE.out];first | rfl | simp,HB.out _⟩
     ·go_wp2_with fail
      go_ret
      exact ⟨by rw[HE.out];first | rfl | simp,HB.out _⟩
    ·obtain ⟨ed1,ed2,ed3,ed4⟩:=em_facts hd
     rw[ed4] at HE
     clear ed4 hd
     go_wp2_with fail
     refine (cH _).mono ?_
     rintro e w' ⟨rfl,rfl⟩
     cases hc:inRg f 0 100000<;>rw[hc] at HE
     ·go_wp2_with fail
      go_ret
      exact ⟨by rw[HE.out];first | rfl | simp,HB.out _⟩
     ·go_wp2_with fail
      go_ret
      exact ⟨by rw[HE.out];first | rfl | simp,HB.out _⟩
  ·obtain ⟨ek1,ek2,ek3,ek4⟩:=em_facts hk
   rw[ek4] at HE
   clear ek4 hk
   by_cases ht:t=0
   ·subst ht
    rw[z_nil] at HE
    by_cases hd:d=⟨#[]⟩
    ·subst hd
     rw[em_nil] at HE
     go_wp2_with fail
     refine (cH _).mono ?_
     rintro e w' ⟨rfl,rfl⟩
     cases hc:inRg f 0 100000<;>rw[hc] at HE
     ·go_wp2_with fail
      go_ret
      exact ⟨by rw[HE.out];first | rfl | simp,HB.out _⟩
     ·go_wp2_with fail
      go_ret
      exact ⟨by rw[HE.out];first | rfl | simp,HB.out _⟩
    ·obtain ⟨ed1,ed2,ed3,ed4⟩:=em_facts hd
     rw[ed4] at HE
     clear ed4 hd
     go_wp2_with fail
     refine (cH _).mono ?_
     rintro e w' ⟨rfl,rfl⟩
     cases hc:inRg f 0 100000<;>rw[hc] at HE
     ·go_wp2_with fail
      go_ret
      exact ⟨by rw[HE.out];first | rfl | simp,HB.out _⟩
     ·go_wp2_with fail
      go_ret
      exact ⟨by rw[HE.out];first | rfl | simp,HB.out _⟩
   ·obtain ⟨et1,et2,et4⟩:=z_facts ht
    rw[et4] at HE
    clear et4 ht
    by_cases hd:d=⟨#[]⟩
    ·subst hd
     rw[em_nil] at HE
     go_wp2_with fail
     refine (cH _).mono ?_
     rintro e w' ⟨rfl,rfl⟩
     cases hc:inRg f 0 100000<;>rw[hc] at HE
     ·go_wp2_with fail
      go_ret
      exact ⟨by rw[HE.out];first | rfl | simp,HB.out _⟩
     ·go_wp2_with fail
      go_ret
      exact ⟨by rw[HE.out];first | rfl | simp,HB.out _⟩
    ·obtain ⟨ed1,ed2,ed3,ed4⟩:=em_facts hd
     rw[ed4] at HE
     clear ed4 hd
     go_wp2_with fail
     refine (cH _).mono ?_
     rintro e w' ⟨rfl,rfl⟩
     cases hc:inRg f 0 100000<;>rw[hc] at HE
     ·go_wp2_with fail
      go_ret
      exact ⟨by rw[HE.out];first | rfl | simp,HB.out _⟩
     ·go_wp2_with fail
      go_ret
      exact ⟨by rw[HE.out];first | rfl | simp,HB.out _⟩
set_option maxHeartbeats 8000000 in
theorem specOpOk_6 (k:ByteArray) (f t:Int) (d:ByteArray) (w:World) (hk:k.size≤maxLen):Calls Tryd.prog 8 #[vOp ⟨6,k,f,t,d⟩] w fun e w'=>e=.returned (.bool (opOk ⟨6,k,f,t,d⟩))∧Below w.heap.size w w':=by
 have HE:Hid (opOk ⟨6,k,f,t,d⟩=(inRg f 0 1099511627776&&emB k&&zB t&&emB d)):=by unfold Hid opOk;simp
 have HB:Hid (∀ o,Below w.heap.size w ((w.alloc (.cells #[.int .i64 6,.string k,.int .i64 f,.int .i64 t,.string d] 29)).alloc o)):=fun o=>((below_a1 _ _).alloc (by simp) o)
 have cI:=inS f 0 1099511627776
 have cH:=inS f 0 100000
 have cK:=fun wx=>specKey k wx hk
 clear hk
 rw[show decide (KOk k)=keyB k from by unfold keyB;first | rfl | congr] at cK
 unfold vOp
 simp only
 go_enter Tryd.func8,Tryd.ntmps8
 go_upto_region 1 with fail
 go_cut [3] from 8 to 22 (fun s3 wc=>s3=.bool (spanB f t)∧wc=w.alloc (.cells #[.int .i64 6,.string k,.int .i64 f,.int .i64 t,.string d] 29))
 case first =>
  clear HE HB
  by_cases h1:0≤f
  ·by_cases h2:f<t
   ·by_cases h3:t≤1099511627776
    ·go_wp2_with fail
     go_meet
     exact ⟨by simp[spanB, *],rfl⟩
    ·have d3:decide (t≤1099511627776)=false:=decide_eq_false h3
     go_wp2_with fail
     go_meet
     exact ⟨by simp[spanB, *],rfl⟩
   ·have d2:decide (f<t)=false:=decide_eq_false h2
    go_wp2_with fail
    go_meet
    exact ⟨by simp[spanB, *],rfl⟩
  ·have d1:decide (0≤f)=false:=decide_eq_false h1
   go_wp2_with fail
   go_meet
   exact ⟨by simp[spanB, *],rfl⟩
 case rest =>
  obtain ⟨rfl,rfl⟩:=hcut
  by_cases hk:k=⟨#[]⟩
  ·subst hk
   rw[em_nil] at HE
   by_cases ht:t=0
   ·subst ht
    rw[z_nil] at HE
    by_cases hd:d=⟨#[]⟩
    ·subst hd
     rw[em_nil] at HE
     go_wp2_with fail
     refine (cI _).mono ?_
     rintro e w' ⟨rfl,rfl⟩
     cases hc:inRg f 0 1099511627776<;>rw[hc] at HE
     ·go_wp2_with fail
      go_ret
      exact ⟨by rw[HE.out];first | rfl | simp,HB.out _⟩
     ·go_wp2_with fail
      go_ret
      exact ⟨by rw[HE.out];first | rfl | simp,HB.out _⟩
    ·obtain ⟨ed1,ed2,ed3,ed4⟩:=em_facts hd
     rw[ed4] at HE
     clear ed4 hd
     go_wp2_with fail
     refine (cI _).mono ?_
     rintro e w' ⟨rfl,rfl⟩
     cases hc:inRg f 0 1099511627776<;>rw[hc] at HE
     ·go_wp2_with fail
      go_ret
      exact ⟨by rw[HE.out];first | rfl | simp,HB.out _⟩
     ·go_wp2_with fail
      go_ret
      exact ⟨by rw[HE.out];first | rfl | simp,HB.out _⟩
   ·obtain ⟨et1,et2,et4⟩:=z_facts ht
    rw[et4] at HE
    clear et4 ht
    by_cases hd:d=⟨#[]⟩
    ·subst hd
     rw[em_nil] at HE
     go_wp2_with fail
     refine (cI _).mono ?_
     rintro e w' ⟨rfl,rfl⟩
     cases hc:inRg f 0 1099511627776<;>rw[hc] at HE
     ·go_wp2_with fail
      go_ret
      exact ⟨by rw[HE.out];first | rfl | simp,HB.out _⟩
     ·go_wp2_with fail
      go_ret
      exact ⟨by rw[HE.out];first | rfl | simp,HB.out _⟩
    ·obtain ⟨ed1,ed2,ed3,ed4⟩:=em_facts hd
     rw[ed4] at HE
     clear ed4 hd
     go_wp2_with fail
     refine (cI _).mono ?_
     rintro e w' ⟨rfl,rfl⟩
     cases hc:inRg f 0 1099511627776<;>rw[hc] at HE
     ·go_wp2_with fail
      go_ret
      exact ⟨by rw[HE.out];first | rfl | simp,HB.out _⟩
     ·go_wp2_with fail
      go_ret
      exact ⟨by rw[HE.out];first | rfl | simp,HB.out _⟩
  ·obtain ⟨ek1,ek2,ek3,ek4⟩:=em_facts hk
   rw[ek4] at HE
   clear ek4 hk
   by_cases ht:t=0
   ·subst ht
    rw[z_nil] at HE
    by_cases hd:d=⟨#[]⟩
    ·subst hd
     rw[em_nil] at HE
     go_wp2_with fail
     refine (cI _).mono ?_
     rintro e w' ⟨rfl,rfl⟩
     cases hc:inRg f 0 1099511627776<;>rw[hc] at HE
     ·go_wp2_with fail
      go_ret
      exact ⟨by rw[HE.out];first | rfl | simp,HB.out _⟩
     ·go_wp2_with fail
      go_ret
      exact ⟨by rw[HE.out];first | rfl | simp,HB.out _⟩
    ·obtain ⟨ed1,ed2,ed3,ed4⟩:=em_facts hd
     rw[ed4] at HE
     clear ed4 hd
     go_wp2_with fail
     refine (cI _).mono ?_
     rintro e w' ⟨rfl,rfl⟩
     cases hc:inRg f 0 1099511627776<;>rw[hc] at HE
     ·go_wp2_with fail
      go_ret
      exact ⟨by rw[HE.out];first | rfl | simp,HB.out _⟩
     ·go_wp2_with fail
      go_ret
      exact ⟨by rw[HE.out];first | rfl | simp,HB.out _⟩
   ·obtain ⟨et1,et2,et4⟩:=z_facts ht
    rw[et4] at HE
    clear et4 ht
    by_cases hd:d=⟨#[]⟩
    ·subst hd
     rw[em_nil] at HE
     go_wp2_with fail
     refine (cI _).mono ?_
     rintro e w' ⟨rfl,rfl⟩
     cases hc:inRg f 0 1099511627776<;>rw[hc] at HE
     ·go_wp2_with fail
      go_ret
      exact ⟨by rw[HE.out];first | rfl | simp,HB.out _⟩
     ·go_wp2_with fail
      go_ret
      exact ⟨by rw[HE.out];first | rfl | simp,HB.out _⟩
    ·obtain ⟨ed1,ed2,ed3,ed4⟩:=em_facts hd
     rw[ed4] at HE
     clear ed4 hd
     go_wp2_with fail
     refine (cI _).mono ?_
     rintro e w' ⟨rfl,rfl⟩
     cases hc:inRg f 0 1099511627776<;>rw[hc] at HE
     ·go_wp2_with fail
      go_ret
      exact ⟨by rw[HE.out];first | rfl | simp,HB.out _⟩
     ·go_wp2_with fail
      go_ret
      exact ⟨by rw[HE.out];first | rfl | simp,HB.out _⟩
set_option maxHeartbeats 8000000 in
theorem specOpOk_7 (k:ByteArray) (f t:Int) (d:ByteArray) (w:World) (hk:k.size≤maxLen):Calls Tryd.prog 8 #[vOp ⟨7,k,f,t,d⟩] w fun e w'=>e=.returned (.bool (opOk ⟨7,k,f,t,d⟩))∧Below w.heap.size w w':=by
 have HE:Hid (opOk ⟨7,k,f,t,d⟩=(emB k&&zB f&&zB t&&emB d)):=by unfold Hid opOk;simp
 have HB:Hid (∀ o,Below w.heap.size w ((w.alloc (.cells #[.int .i64 7,.string k,.int .i64 f,.int .i64 t,.string d] 29)).alloc o)):=fun o=>((below_a1 _ _).alloc (by simp) o)
 have cI:=inS f 0 1099511627776
 have cH:=inS f 0 100000
 have cK:=fun wx=>specKey k wx hk
 clear hk
 rw[show decide (KOk k)=keyB k from by unfold keyB;first | rfl | congr] at cK
 unfold vOp
 simp only
 go_enter Tryd.func8,Tryd.ntmps8
 go_upto_region 1 with fail
 go_cut [3] from 8 to 22 (fun s3 wc=>s3=.bool (spanB f t)∧wc=w.alloc (.cells #[.int .i64 7,.string k,.int .i64 f,.int .i64 t,.string d] 29))
 case first =>
  clear HE HB
  by_cases h1:0≤f
  ·by_cases h2:f<t
   ·by_cases h3:t≤1099511627776
    ·go_wp2_with fail
     go_meet
     exact ⟨by simp[spanB, *],rfl⟩
    ·have d3:decide (t≤1099511627776)=false:=decide_eq_false h3
     go_wp2_with fail
     go_meet
     exact ⟨by simp[spanB, *],rfl⟩
   ·have d2:decide (f<t)=false:=decide_eq_false h2
    go_wp2_with fail
    go_meet
    exact ⟨by simp[spanB, *],rfl⟩
  ·have d1:decide (0≤f)=false:=decide_eq_false h1
   go_wp2_with fail
   go_meet
   exact ⟨by simp[spanB, *],rfl⟩
 case rest =>
  obtain ⟨rfl,rfl⟩:=hcut
  by_cases hk:k=⟨#[]⟩
  ·subst hk
   rw[em_nil] at HE
   by_cases hf:f=0
   ·subst hf
    rw[z_nil] at HE
    by_cases ht:t=0
    ·subst ht
     rw[z_nil] at HE
     by_cases hd:d=⟨#[]⟩
     ·subst hd
      rw[em_nil] at HE
      go_wp2_with fail
      go_ret
      exact ⟨by rw[HE.out];first | rfl | simp,HB.out _⟩
     ·obtain ⟨ed1,ed2,ed3,ed4⟩:=em_facts hd
      rw[ed4] at HE
      clear ed4 hd
      go_wp2_with fail
      go_ret
      exact ⟨by rw[HE.out];first | rfl | simp,HB.out _⟩
    ·obtain ⟨et1,et2,et4⟩:=z_facts ht
     rw[et4] at HE
     clear et4 ht
     by_cases hd:d=⟨#[]⟩
     ·subst hd
      rw[em_nil] at HE
      go_wp2_with fail
      go_ret
      exact ⟨by rw[HE.out];first | rfl | simp,HB.out _⟩
     ·obtain ⟨ed1,ed2,ed3,ed4⟩:=em_facts hd
      rw[ed4] at HE
      clear ed4 hd
      go_wp2_with fail
      go_ret
      exact ⟨by rw[HE.out];first | rfl | simp,HB.out _⟩
   ·obtain ⟨ef1,ef2,ef4⟩:=z_facts hf
    rw[ef4] at HE
    clear ef4 hf
    by_cases ht:t=0
    ·subst ht
     rw[z_nil] at HE
     by_cases hd:d=⟨#[]⟩
     ·subst hd
      rw[em_nil] at HE
      go_wp2_with fail
      go_ret
      exact ⟨by rw[HE.out];first | rfl | simp,HB.out _⟩
     ·obtain ⟨ed1,ed2,ed3,ed4⟩:=em_facts hd
      rw[ed4] at HE
      clear ed4 hd
      go_wp2_with fail
      go_ret
      exact ⟨by rw[HE.out];first | rfl | simp,HB.out _⟩
    ·obtain ⟨et1,et2,et4⟩:=z_facts ht
     rw[et4] at HE
     clear et4 ht
     by_cases hd:d=⟨#[]⟩
     ·subst hd
      rw[em_nil] at HE
      go_wp2_with fail
      go_ret
      exact ⟨by rw[HE.out];first | rfl | simp,HB.out _⟩
     ·obtain ⟨ed1,ed2,ed3,ed4⟩:=em_facts hd
      rw[ed4] at HE
      clear ed4 hd
      go_wp2_with fail
      go_ret
      exact ⟨by rw[HE.out];first | rfl | simp,HB.out _⟩
  ·obtain ⟨ek1,ek2,ek3,ek4⟩:=em_facts hk
   rw[ek4] at HE
   clear ek4 hk
   by_cases hf:f=0
   ·subst hf
    rw[z_nil] at HE
    by_cases ht:t=0
    ·subst ht
     rw[z_nil] at HE
     by_cases hd:d=⟨#[]⟩
     ·subst hd
      rw[em_nil] at HE
      go_wp2_with fail
      go_ret
      exact ⟨by rw[HE.out];first | rfl | simp,HB.out _⟩
     ·obtain ⟨ed1,ed2,ed3,ed4⟩:=em_facts hd
      rw[ed4] at HE
      clear ed4 hd
      go_wp2_with fail
      go_ret
      exact ⟨by rw[HE.out];first | rfl | simp,HB.out _⟩
    ·obtain ⟨et1,et2,et4⟩:=z_facts ht
     rw[et4] at HE
     clear et4 ht
     by_cases hd:d=⟨#[]⟩
     ·subst hd
      rw[em_nil] at HE
      go_wp2_with fail
      go_ret
      exact ⟨by rw[HE.out];first | rfl | simp,HB.out _⟩
     ·obtain ⟨ed1,ed2,ed3,ed4⟩:=em_facts hd
      rw[ed4] at HE
      clear ed4 hd
      go_wp2_with fail
      go_ret
      exact ⟨by rw[HE.out];first | rfl | simp,HB.out _⟩
   ·obtain ⟨ef1,ef2,ef4⟩:=z_facts hf
    rw[ef4] at HE
    clear ef4 hf
    by_cases ht:t=0
    ·subst ht
     rw[z_nil] at HE
     by_cases hd:d=⟨#[]⟩
     ·subst hd
      rw[em_nil] at HE
      go_wp2_with fail
      go_ret
      exact ⟨by rw[HE.out];first | rfl | simp,HB.out _⟩
     ·obtain ⟨ed1,ed2,ed3,ed4⟩:=em_facts hd
      rw[ed4] at HE
      clear ed4 hd
      go_wp2_with fail
      go_ret
      exact ⟨by rw[HE.out];first | rfl | simp,HB.out _⟩
    ·obtain ⟨et1,et2,et4⟩:=z_facts ht
     rw[et4] at HE
     clear et4 ht
     by_cases hd:d=⟨#[]⟩
     ·subst hd
      rw[em_nil] at HE
      go_wp2_with fail
      go_ret
      exact ⟨by rw[HE.out];first | rfl | simp,HB.out _⟩
     ·obtain ⟨ed1,ed2,ed3,ed4⟩:=em_facts hd
      rw[ed4] at HE
      clear ed4 hd
      go_wp2_with fail
      go_ret
      exact ⟨by rw[HE.out];first | rfl | simp,HB.out _⟩
set_option maxHeartbeats 8000000 in
theorem specOpOk_5 (k:ByteArray) (f t:Int) (d:ByteArray) (w:World) (hk:k.size≤maxLen):Calls Tryd.prog 8 #[vOp ⟨5,k,f,t,d⟩] w fun e w'=>e=.returned (.bool (opOk ⟨5,k,f,t,d⟩))∧Below w.heap.size w w':=by
 have HE:Hid (opOk ⟨5,k,f,t,d⟩=(keyB k&&spanB f t&&emB d)):=by unfold Hid opOk;simp
 have HB:Hid (∀ o,Below w.heap.size w ((w.alloc (.cells #[.int .i64 5,.string k,.int .i64 f,.int .i64 t,.string d] 29)).alloc o)):=fun o=>((below_a1 _ _).alloc (by simp) o)
 have cI:=inS f 0 1099511627776
 have cH:=inS f 0 100000
 have cK:=fun wx=>specKey k wx hk
 clear hk
 rw[show decide (KOk k)=keyB k from by unfold keyB;first | rfl | congr] at cK
 unfold vOp
 simp only
 go_enter Tryd.func8,Tryd.ntmps8
 go_upto_region 1 with fail
 go_cut [3] from 8 to 22 (fun s3 wc=>s3=.bool (spanB f t)∧wc=w.alloc (.cells #[.int .i64 5,.string k,.int .i64 f,.int .i64 t,.string d] 29))
 case first =>
  clear HE HB
  by_cases h1:0≤f
  ·by_cases h2:f<t
   ·by_cases h3:t≤1099511627776
    ·go_wp2_with fail
     go_meet
     exact ⟨by simp[spanB, *],rfl⟩
    ·have d3:decide (t≤1099511627776)=false:=decide_eq_false h3
     go_wp2_with fail
     go_meet
     exact ⟨by simp[spanB, *],rfl⟩
   ·have d2:decide (f<t)=false:=decide_eq_false h2
    go_wp2_with fail
    go_meet
    exact ⟨by simp[spanB, *],rfl⟩
  ·have d1:decide (0≤f)=false:=decide_eq_false h1
   go_wp2_with fail
   go_meet
   exact ⟨by simp[spanB, *],rfl⟩
 case rest =>
  obtain ⟨rfl,rfl⟩:=hcut
  by_cases hd:d=⟨#[]⟩
  ·subst hd
   rw[em_nil] at HE
   cases hs:spanB f t<;>rw[hs] at HE<;>cases hc:keyB k<;>rw[hc] at HE cK
   ·go_wp2_with fail
    refine (cK _).mono ?_
    rintro e w' ⟨rfl,rfl⟩
    go_wp2_with fail
    go_ret
    exact ⟨by rw[HE.out];first | rfl | simp,HB.out _⟩
   ·go_wp2_with fail
    refine (cK _).mono ?_
    rintro e w' ⟨rfl,rfl⟩
    go_wp2_with fail
    go_ret
    exact ⟨by rw[HE.out];first | rfl | simp,HB.out _⟩
   ·go_wp2_with fail
    refine (cK _).mono ?_
    rintro e w' ⟨rfl,rfl⟩
    go_wp2_with fail
    go_ret
    exact ⟨by rw[HE.out];first | rfl | simp,HB.out _⟩
   ·go_wp2_with fail
    refine (cK _).mono ?_
    rintro e w' ⟨rfl,rfl⟩
    go_wp2_with fail
    go_ret
    exact ⟨by rw[HE.out];first | rfl | simp,HB.out _⟩
  ·obtain ⟨ed1,ed2,ed3,ed4⟩:=em_facts hd
   rw[ed4] at HE
   clear ed4 hd
   cases hs:spanB f t<;>rw[hs] at HE<;>cases hc:keyB k<;>rw[hc] at HE cK
   ·go_wp2_with fail
    refine (cK _).mono ?_
    rintro e w' ⟨rfl,rfl⟩
    go_wp2_with fail
    go_ret
    exact ⟨by rw[HE.out];first | rfl | simp,HB.out _⟩
   ·go_wp2_with fail
    refine (cK _).mono ?_
    rintro e w' ⟨rfl,rfl⟩
    go_wp2_with fail
    go_ret
    exact ⟨by rw[HE.out];first | rfl | simp,HB.out _⟩
   ·go_wp2_with fail
    refine (cK _).mono ?_
    rintro e w' ⟨rfl,rfl⟩
    go_wp2_with fail
    go_ret
    exact ⟨by rw[HE.out];first | rfl | simp,HB.out _⟩
   ·go_wp2_with fail
    refine (cK _).mono ?_
    rintro e w' ⟨rfl,rfl⟩
    go_wp2_with fail
    go_ret
    exact ⟨by rw[HE.out];first | rfl | simp,HB.out _⟩
set_option maxHeartbeats 8000000 in
theorem specOpOk_4 (k:ByteArray) (f t:Int) (d:ByteArray) (w:World) (hk:k.size≤maxLen) (hd:d.size≤1048576):Calls Tryd.prog 8 #[vOp ⟨4,k,f,t,d⟩] w fun e w'=>e=.returned (.bool (opOk ⟨4,k,f,t,d⟩))∧Below w.heap.size w w':=by
 have HE:Hid (opOk ⟨4,k,f,t,d⟩=(keyB k&&rdB d&&zB f&&zB t)):=by unfold Hid opOk;simp
 have HB:Hid True:=trivial
 obtain ⟨X,hX⟩:∃ X,X=(w.alloc (.cells #[.int .i64 4,.string k,.int .i64 f,.int .i64 t,.string d] 29)).alloc (.cells #[.int .i64 4,.string k,.int .i64 0,.int .i64 0,.string d] 29):=⟨_,rfl⟩
 have HBX:Hid (Below w.heap.size w X):=by rw[hX];exact (below_a1 _ _).alloc (by simp) _
 have hY:=CellO.new w ⟨4,k,f,t,d⟩ 29
 have KX:Hid (CellO X w.heap.size ⟨4,k,f,t,d⟩):=by rw[hX];exact hY.on (below_a1 _ _) hY.2
 have KZ:Hid (CellO X (w.heap.size+1) ⟨4,k,0,0,d⟩):=by
  have h:=CellO.new (w.alloc (.cells #[.int .i64 4,.string k,.int .i64 f,.int .i64 t,.string d] 29)) ⟨4,k,0,0,d⟩ 29
  unfold Hid
  rw[hX]
  simpa using h
 clear hY
 have cR:=specReadBlock d X hd
 have cK:=fun wx=>specKey k wx hk
 clear hk hd
 rw[show decide (KOk k)=keyB k from by unfold keyB;first | rfl | congr] at cK
 unfold vOp
 simp only
 go_enter Tryd.func8,Tryd.ntmps8
 go_upto_region 1 with fail
 go_cut [3] from 8 to 22 (fun s3 wc=>s3=.bool (spanB f t)∧wc=w.alloc (.cells #[.int .i64 4,.string k,.int .i64 f,.int .i64 t,.string d] 29))
 case first =>
  clear HE HB
  by_cases h1:0≤f
  ·by_cases h2:f<t
   ·by_cases h3:t≤1099511627776
    ·go_wp2_with fail
     go_meet
     exact ⟨by simp[spanB, *],rfl⟩
    ·have d3:decide (t≤1099511627776)=false:=decide_eq_false h3
     go_wp2_with fail
     go_meet
     exact ⟨by simp[spanB, *],rfl⟩
   ·have d2:decide (f<t)=false:=decide_eq_false h2
    go_wp2_with fail
    go_meet
    exact ⟨by simp[spanB, *],rfl⟩
  ·have d1:decide (0≤f)=false:=decide_eq_false h1
   go_wp2_with fail
   go_meet
   exact ⟨by simp[spanB, *],rfl⟩
 case rest =>
  obtain ⟨rfl,rfl⟩:=hcut
  go_wp2_with fail
  rw[← hX]
  clear hX
  refine cR.mono ?_
  rintro e w1 ⟨⟨u,l,ok,hA,rfl,hO⟩,hb⟩
  have hr:=rdB_is hA
  rw[hr] at HE
  have HB:Hid (Below w.heap.size w w1):=HBX.out.trans (hb.mono HBX.out.size)
  obtain ⟨⟨g0,g1,g2,g3,g4⟩,_⟩:=KX.out.on hb KX.out.2
  obtain ⟨⟨y0,y1,y2,y3,y4⟩,_⟩:=KZ.out.on hb KZ.out.2
  simp only at g0 g1 g2 g3 g4 y0 y1 y2 y3 y4
  obtain ⟨Au,mu,cu,rfl⟩:=hO.shape
  clear hA hO hb hr cR KX KZ
  by_cases hf:f=0
  ·subst hf
   rw[z_nil] at HE
   by_cases ht:t=0
   ·subst ht
    rw[z_nil] at HE
    cases ok<;>cases hc:keyB k<;>rw[hc] at HE cK
    ·go_wp2_with fail
     refine (cK _).mono ?_
     rintro e w' ⟨rfl,rfl⟩
     go_wp2_with fail
     go_ret
     exact ⟨by rw[HE.out];first | rfl | simp,HB.out⟩
    ·go_wp2_with fail
     refine (cK _).mono ?_
     rintro e w' ⟨rfl,rfl⟩
     go_wp2_with fail
     go_ret
     exact ⟨by rw[HE.out];first | rfl | simp,HB.out⟩
    ·go_wp2_with fail
     refine (cK _).mono ?_
     rintro e w' ⟨rfl,rfl⟩
     go_wp2_with fail
     go_ret
     exact ⟨by rw[HE.out];first | rfl | simp,HB.out⟩
    ·go_wp2_with fail
     refine (cK _).mono ?_
     rintro e w' ⟨rfl,rfl⟩
     go_wp2_with fail
     go_ret
     exact ⟨by rw[HE.out];first | rfl | simp,HB.out⟩
   ·obtain ⟨et1,et2,et4⟩:=z_facts ht
    rw[et4] at HE
    clear et4 ht
    cases ok<;>cases hc:keyB k<;>rw[hc] at HE cK
    ·go_wp2_with fail
     refine (cK _).mono ?_
     rintro e w' ⟨rfl,rfl⟩
     go_wp2_with fail
     go_ret
     exact ⟨by rw[HE.out];first | rfl | simp,HB.out⟩
    ·go_wp2_with fail
     refine (cK _).mono ?_
     rintro e w' ⟨rfl,rfl⟩
     go_wp2_with fail
     go_ret
     exact ⟨by rw[HE.out];first | rfl | simp,HB.out⟩
    ·go_wp2_with fail
     refine (cK _).mono ?_
     rintro e w' ⟨rfl,rfl⟩
     go_wp2_with fail
     go_ret
     exact ⟨by rw[HE.out];first | rfl | simp,HB.out⟩
    ·go_wp2_with fail
     refine (cK _).mono ?_
     rintro e w' ⟨rfl,rfl⟩
     go_wp2_with fail
     go_ret
     exact ⟨by rw[HE.out];first | rfl | simp,HB.out⟩
  ·obtain ⟨ef1,ef2,ef4⟩:=z_facts hf
   rw[ef4] at HE
   clear ef4 hf
   by_cases ht:t=0
   ·subst ht
    rw[z_nil] at HE
    cases ok<;>cases hc:keyB k<;>rw[hc] at HE cK
    ·go_wp2_with fail
     refine (cK _).mono ?_
     rintro e w' ⟨rfl,rfl⟩
     go_wp2_with fail
     go_ret
     exact ⟨by rw[HE.out];first | rfl | simp,HB.out⟩
    ·go_wp2_with fail
     refine (cK _).mono ?_
     rintro e w' ⟨rfl,rfl⟩
     go_wp2_with fail
     go_ret
     exact ⟨by rw[HE.out];first | rfl | simp,HB.out⟩
    ·go_wp2_with fail
     refine (cK _).mono ?_
     rintro e w' ⟨rfl,rfl⟩
     go_wp2_with fail
     go_ret
     exact ⟨by rw[HE.out];first | rfl | simp,HB.out⟩
    ·go_wp2_with fail
     refine (cK _).mono ?_
     rintro e w' ⟨rfl,rfl⟩
     go_wp2_with fail
     go_ret
     exact ⟨by rw[HE.out];first | rfl | simp,HB.out⟩
   ·obtain ⟨et1,et2,et4⟩:=z_facts ht
    rw[et4] at HE
    clear et4 ht
    cases ok<;>cases hc:keyB k<;>rw[hc] at HE cK
    ·go_wp2_with fail
     refine (cK _).mono ?_
     rintro e w' ⟨rfl,rfl⟩
     go_wp2_with fail
     go_ret
     exact ⟨by rw[HE.out];first | rfl | simp,HB.out⟩
    ·go_wp2_with fail
     refine (cK _).mono ?_
     rintro e w' ⟨rfl,rfl⟩
     go_wp2_with fail
     go_ret
     exact ⟨by rw[HE.out];first | rfl | simp,HB.out⟩
    ·go_wp2_with fail
     refine (cK _).mono ?_
     rintro e w' ⟨rfl,rfl⟩
     go_wp2_with fail
     go_ret
     exact ⟨by rw[HE.out];first | rfl | simp,HB.out⟩
    ·go_wp2_with fail
     refine (cK _).mono ?_
     rintro e w' ⟨rfl,rfl⟩
     go_wp2_with fail
     go_ret
     exact ⟨by rw[HE.out];first | rfl | simp,HB.out⟩
set_option maxHeartbeats 8000000 in
theorem specOpOk_no (x:Opx) (w:World) (h:x.kind≠1∧x.kind≠2∧x.kind≠3∧x.kind≠4∧x.kind≠5∧x.kind≠6∧x.kind≠7):Calls Tryd.prog 8 #[vOp x] w fun e w'=>e=.returned (.bool (opOk x))∧Below w.heap.size w w':=by
 obtain ⟨n,k,f,t,d⟩:=x
 simp only at h
 obtain ⟨h1,h2,h3,h4,h5,h6,h7⟩:=h
 have HE:Hid (opOk ⟨n,k,f,t,d⟩=false):=by unfold Hid opOk;simp[h1,h2,h3,h4,h5,h6,h7]
 have HB:Hid (∀ o,Below w.heap.size w ((w.alloc (.cells #[.int .i64 n,.string k,.int .i64 f,.int .i64 t,.string d] 29)).alloc o)):=fun o=>((below_a1 _ _).alloc (by simp) o)
 have z1:(n == 1)=false:=by simpa using h1
 have z2:(n == 2)=false:=by simpa using h2
 have z3:(n == 3)=false:=by simpa using h3
 have z4:(n == 4)=false:=by simpa using h4
 have z5:(n == 5)=false:=by simpa using h5
 have z6:(n == 6)=false:=by simpa using h6
 have z7:(n == 7)=false:=by simpa using h7
 clear h1 h2 h3 h4 h5 h6 h7
 unfold vOp
 simp only
 go_enter Tryd.func8,Tryd.ntmps8
 go_upto_region 1 with fail
 go_cut [3] from 8 to 22 (fun s3 wc=>s3=.bool (spanB f t)∧wc=w.alloc (.cells #[.int .i64 n,.string k,.int .i64 f,.int .i64 t,.string d] 29))
 case first =>
  clear HE HB
  by_cases h1:0≤f
  ·by_cases h2:f<t
   ·by_cases h3:t≤1099511627776
    ·go_wp2_with fail
     go_meet
     exact ⟨by simp[spanB, *],rfl⟩
    ·have d3:decide (t≤1099511627776)=false:=decide_eq_false h3
     go_wp2_with fail
     go_meet
     exact ⟨by simp[spanB, *],rfl⟩
   ·have d2:decide (f<t)=false:=decide_eq_false h2
    go_wp2_with fail
    go_meet
    exact ⟨by simp[spanB, *],rfl⟩
  ·have d1:decide (0≤f)=false:=decide_eq_false h1
   go_wp2_with fail
   go_meet
   exact ⟨by simp[spanB, *],rfl⟩
 case rest =>
  obtain ⟨rfl,rfl⟩:=hcut
  go_wp2_with fail
  go_ret
  exact ⟨by rw[HE.out];first | rfl | simp,HB.out _⟩
theorem specOpOk (x:Opx) (w:World) (hk:x.key.size≤maxLen) (hd:x.data.size≤1048576):Calls Tryd.prog 8 #[vOp x] w fun e w'=>e=.returned (.bool (opOk x))∧Below w.heap.size w w':=by
 by_cases h:x.kind≠1∧x.kind≠2∧x.kind≠3∧x.kind≠4∧x.kind≠5∧x.kind≠6∧x.kind≠7
 ·exact specOpOk_no x w h
 ·obtain ⟨n,k,f,t,d⟩:=x
  simp only at h hk hd
  have:n=1∨n=2∨n=3∨n=4∨n=5∨n=6∨n=7:=by omega
  rcases this with rfl | rfl | rfl | rfl | rfl | rfl | rfl
  ·exact specOpOk_1 k f t d w hk
  ·exact specOpOk_2 k f t d w hk
  ·exact specOpOk_3 k f t d w hk
  ·exact specOpOk_4 k f t d w hk hd
  ·exact specOpOk_5 k f t d w hk
  ·exact specOpOk_6 k f t d w hk
  ·exact specOpOk_7 k f t d w hk
end Go.Proofs.YtedmdilabbolaaaDoor
namespace Go.Proofs.YtedmdilabbolaaaDoor
open Go.ChangeShapes Go.WideShapes Go.ChangeAt Go.RowKit Go.PlainAid
set_option linter.unusedVariables false
set_option maxHeartbeats 1000000 in
theorem specCallOk_1 (ky:ByteArray) (f t:Int) (d:ByteArray) (w:World) (hk:ky.size≤maxLen) (hd:d.size≤1048576):Calls Tryd.prog 5 #[vOp ⟨1,ky,f,t,d⟩] w fun e w'=>e=.returned (.bool (callOk ⟨1,ky,f,t,d⟩))∧Below w.heap.size w w':=by
 have HE:Hid (callOk ⟨1,ky,f,t,d⟩=opOk ⟨4,ky,f,t,d⟩):=rfl
 have c1:=fun wx=>specOpOk ⟨4,ky,f,t,d⟩ wx hk hd
 obtain ⟨X,hX⟩:∃ X,X=((w.alloc (.cells #[.int .i64 1,.string ky,.int .i64 f,.int .i64 t,.string d] 26)).alloc (.cells #[.int .i64 4,.string ky,.int .i64 f,.int .i64 t,.string d] 29)):=⟨_,rfl⟩
 have HB:Hid (Below w.heap.size w X):=by unfold Hid;rw[hX];exact ((Below.refl _ w).alloc (Nat.le_refl _) _).alloc (by simp) _
 unfold vOp at c1 ⊢
 go_enter Tryd.func5,Tryd.ntmps5
 go_wp2_with fail
 rw[← hX]
 clear hX
 refine (c1 X).mono ?_
 rintro e w1 ⟨rfl,hb⟩
 have B1:Hid (Below w.heap.size w w1):=HB.out.trans (hb.mono HB.out.size)
 clear hb c1
 generalize opOk ⟨4,ky,f,t,d⟩=bb at *
 go_wp2_with fail
 go_ret
 exact ⟨by rw[HE.out];rfl,B1.out⟩
set_option maxHeartbeats 1000000 in
theorem specCallOk_2 (ky:ByteArray) (f t:Int) (d:ByteArray) (w:World) (hk:ky.size≤maxLen) (hd:d.size≤1048576):Calls Tryd.prog 5 #[vOp ⟨2,ky,f,t,d⟩] w fun e w'=>e=.returned (.bool (callOk ⟨2,ky,f,t,d⟩))∧Below w.heap.size w w':=by
 have HE:Hid (callOk ⟨2,ky,f,t,d⟩=opOk ⟨5,ky,f,t,d⟩):=rfl
 have c1:=fun wx=>specOpOk ⟨5,ky,f,t,d⟩ wx hk hd
 obtain ⟨X,hX⟩:∃ X,X=((w.alloc (.cells #[.int .i64 2,.string ky,.int .i64 f,.int .i64 t,.string d] 26)).alloc (.cells #[.int .i64 5,.string ky,.int .i64 f,.int .i64 t,.string d] 29)):=⟨_,rfl⟩
 have HB:Hid (Below w.heap.size w X):=by unfold Hid;rw[hX];exact ((Below.refl _ w).alloc (Nat.le_refl _) _).alloc (by simp) _
 unfold vOp at c1 ⊢
 go_enter Tryd.func5,Tryd.ntmps5
 go_wp2_with fail
 rw[← hX]
 clear hX
 refine (c1 X).mono ?_
 rintro e w1 ⟨rfl,hb⟩
 have B1:Hid (Below w.heap.size w w1):=HB.out.trans (hb.mono HB.out.size)
 clear hb c1
 generalize opOk ⟨5,ky,f,t,d⟩=bb at *
 go_wp2_with fail
 go_ret
 exact ⟨by rw[HE.out];rfl,B1.out⟩
set_option maxHeartbeats 1000000 in
theorem specCallOk_3 (ky:ByteArray) (f t:Int) (d:ByteArray) (w:World) (hk:ky.size≤maxLen) (hd:d.size≤1048576):Calls Tryd.prog 5 #[vOp ⟨3,ky,f,t,d⟩] w fun e w'=>e=.returned (.bool (callOk ⟨3,ky,f,t,d⟩))∧Below w.heap.size w w':=by
 have HE:Hid (callOk ⟨3,ky,f,t,d⟩=opOk ⟨2,ky,f,t,d⟩):=rfl
 have c1:=fun wx=>specOpOk ⟨2,ky,f,t,d⟩ wx hk hd
 obtain ⟨X,hX⟩:∃ X,X=((w.alloc (.cells #[.int .i64 3,.string ky,.int .i64 f,.int .i64 t,.string d] 26)).alloc (.cells #[.int .i64 2,.string ky,.int .i64 f,.int .i64 t,.string d] 29)):=⟨_,rfl⟩
 have HB:Hid (Below w.heap.size w X):=by unfold Hid;rw[hX];exact ((Below.refl _ w).alloc (Nat.le_refl _) _).alloc (by simp) _
 unfold vOp at c1 ⊢
 go_enter Tryd.func5,Tryd.ntmps5
 go_wp2_with fail
 rw[← hX]
 clear hX
 refine (c1 X).mono ?_
 rintro e w1 ⟨rfl,hb⟩
 have B1:Hid (Below w.heap.size w w1):=HB.out.trans (hb.mono HB.out.size)
 clear hb c1
 generalize opOk ⟨2,ky,f,t,d⟩=bb at *
 go_wp2_with fail
 go_ret
 exact ⟨by rw[HE.out];rfl,B1.out⟩
set_option maxHeartbeats 1000000 in
theorem specCallOk_4 (ky:ByteArray) (f t:Int) (d:ByteArray) (w:World) (hk:ky.size≤maxLen) (hd:d.size≤1048576):Calls Tryd.prog 5 #[vOp ⟨4,ky,f,t,d⟩] w fun e w'=>e=.returned (.bool (callOk ⟨4,ky,f,t,d⟩))∧Below w.heap.size w w':=by
 have HE:Hid (callOk ⟨4,ky,f,t,d⟩=opOk ⟨3,ky,f,t,d⟩):=rfl
 have c1:=fun wx=>specOpOk ⟨3,ky,f,t,d⟩ wx hk hd
 obtain ⟨X,hX⟩:∃ X,X=((w.alloc (.cells #[.int .i64 4,.string ky,.int .i64 f,.int .i64 t,.string d] 26)).alloc (.cells #[.int .i64 3,.string ky,.int .i64 f,.int .i64 t,.string d] 29)):=⟨_,rfl⟩
 have HB:Hid (Below w.heap.size w X):=by unfold Hid;rw[hX];exact ((Below.refl _ w).alloc (Nat.le_refl _) _).alloc (by simp) _
 unfold vOp at c1 ⊢
 go_enter Tryd.func5,Tryd.ntmps5
 go_wp2_with fail
 rw[← hX]
 clear hX
 refine (c1 X).mono ?_
 rintro e w1 ⟨rfl,hb⟩
 have B1:Hid (Below w.heap.size w w1):=HB.out.trans (hb.mono HB.out.size)
 clear hb c1
 generalize opOk ⟨3,ky,f,t,d⟩=bb at *
 go_wp2_with fail
 go_ret
 exact ⟨by rw[HE.out];rfl,B1.out⟩
set_option maxHeartbeats 1000000 in
theorem specCallOk_no (k:Int) (ky:ByteArray) (f t:Int) (d:ByteArray) (w:World) (hk:ky.size≤maxLen) (hd:d.size≤1048576) (h1:¬ k=1) (h2:¬ k=2) (h3:¬ k=3) (h4:¬ k=4):Calls Tryd.prog 5 #[vOp ⟨k,ky,f,t,d⟩] w fun e w'=>e=.returned (.bool (callOk ⟨k,ky,f,t,d⟩))∧Below w.heap.size w w':=by
 have HE:Hid (callOk ⟨k,ky,f,t,d⟩=opOk ⟨0,ky,f,t,d⟩):=by unfold Hid;show opOk ⟨mapK k,ky,f,t,d⟩=_;rw[mapK_facts h1 h2 h3 h4]
 have c1:=fun wx=>specOpOk ⟨0,ky,f,t,d⟩ wx hk hd
 obtain ⟨X,hX⟩:∃ X,X=((w.alloc (.cells #[.int .i64 k,.string ky,.int .i64 f,.int .i64 t,.string d] 26)).alloc (.cells #[.int .i64 0,.string ky,.int .i64 f,.int .i64 t,.string d] 29)):=⟨_,rfl⟩
 have HB:Hid (Below w.heap.size w X):=by unfold Hid;rw[hX];exact ((Below.refl _ w).alloc (Nat.le_refl _) _).alloc (by simp) _
 unfold vOp at c1 ⊢
 go_enter Tryd.func5,Tryd.ntmps5
 go_wp2_with fail
 rw[← hX]
 clear hX
 refine (c1 X).mono ?_
 rintro e w1 ⟨rfl,hb⟩
 have B1:Hid (Below w.heap.size w w1):=HB.out.trans (hb.mono HB.out.size)
 clear hb c1
 generalize opOk ⟨0,ky,f,t,d⟩=bb at *
 go_wp2_with fail
 go_ret
 exact ⟨by rw[HE.out];rfl,B1.out⟩
theorem specCallOk (x:Opx) (w:World) (hk:x.key.size≤maxLen) (hd:x.data.size≤1048576):Calls Tryd.prog 5 #[vOp x] w fun e w'=>e=.returned (.bool (callOk x))∧Below w.heap.size w w':=by
 obtain ⟨k,ky,f,t,d⟩:=x
 by_cases h1:k=1
 ·subst h1;exact specCallOk_1 ky f t d w hk hd
 by_cases h2:k=2
 ·subst h2;exact specCallOk_2 ky f t d w hk hd
 by_cases h3:k=3
 ·subst h3;exact specCallOk_3 ky f t d w hk hd
 by_cases h4:k=4
 ·subst h4;exact specCallOk_4 ky f t d w hk hd
 exact specCallOk_no k ky f t d w hk hd h1 h2 h3 h4
end Go.Proofs.YtedmdilabbolaaaDoor
namespace Go.Proofs.YtedmdilabbolaaaDoor
open Go.ChangeShapes Go.WideShapes Go.ChangeAt Go.RowKit Go.PlainAid
set_option linter.unusedVariables false
set_option maxHeartbeats 1000000 in
theorem law_fnExactCallOk (x:Opx) (v:Value) (w:World) (hv:v=vOp x) (hd:OpFit x) (hi:OpInt x) (hst:SumTab w) (a0 a1 a2:Addr) (he:Errs w a0 a1 a2) :
  Calls Tryd.prog 3 #[v] w fun e w'=>e=.returned (.bool true)∧Below w.heap.size w w':=by
 subst hv
 have c1:=fun wx=>szCall x 1048576 wx (by omega) (by omega) hd
 have c2:=fun wx=>toCall x wx
 unfold vOp at *
 have hb0:=below_a1 w (.cells #[.int .i64 x.kind,.string x.key,.int .i64 x.frm,.int .i64 x.til,.string x.data] 23)
 have k0:=CellO.new w x 23
 have HD:Hid (OpFit x):=hd
 have HI:Hid (OpInt x):=hi
 have HST:Hid (SumTab w):=hst
 have HER:Hid (Errs w a0 a1 a2):=he
 clear hd hi hst he
 go_enter Tryd.func3,Tryd.ntmps3
 go_wp2_with fail
 generalize w.alloc (.cells #[.int .i64 x.kind,.string x.key,.int .i64 x.frm,.int .i64 x.til,.string x.data] 23)=W at *
 refine (c1 _).mono ?_
 rintro e w1 ⟨⟨q,rfl,hq⟩,hb1⟩
 have B1:Hid (Below w.heap.size w w1):=hb0.trans (hb1.mono hb0.size)
 have K1:Hid (CellO w1 w.heap.size x):=k0.on hb1 k0.2
 clear hb0 hb1 c1 k0
 rcases hq.out with rfl | ⟨hq0,hq1⟩
 ·go_wp2_with fail
  go_ret
  exact ⟨rfl,B1.out⟩
 have q1:decide (q<0)=false:=decide_eq_false (by omega)
 have HS:Hid (x.key.size≤1048576∧x.data.size≤1048576):=by unfold Hid;omega
 clear hq1
 obtain ⟨⟨e0,e1,e2,e3,e4⟩,_⟩:=K1.out
 go_wp2_with fail
 refine (c2 _).mono ?_
 rintro e w2 ⟨rfl,hb2⟩
 go_wp2_with fail
 refine (specCallOk x _ HD.out.1 HS.out.2).mono ?_
 rintro e w3 ⟨rfl,hb3⟩
 have B3:Hid (Below w.heap.size w w3):=B1.out.trans ((hb2.trans (hb3.mono hb2.size)).mono B1.out.size)
 have K3:Hid (CellO w3 w.heap.size x):=(K1.out.on hb2 K1.out.2).on hb3 (K1.out.on hb2 K1.out.2).2
 clear e0 e1 e2 e3 e4 hb2 hb3
 obtain ⟨⟨e0,e1,e2,e3,e4⟩,_⟩:=K3.out
 go_wp2_with fail
 refine (c2 _).mono ?_
 rintro e w4 ⟨rfl,hb4⟩
 go_wp2_with fail
 refine (implCallOk x _ HD.out.1 HS.out.2 (HST.out.on (B3.out.trans (hb4.mono B3.out.size))) a0 a1 a2 (HER.out.on (B3.out.trans (hb4.mono B3.out.size)))).mono ?_
 rintro e w5 ⟨rfl,hb5⟩
 have B5:Hid (Below w.heap.size w w5):=B3.out.trans ((hb4.trans (hb5.mono hb4.size)).mono B3.out.size)
 clear hb4 hb5
 generalize callOk x=y at *
 go_wp2_with fail
 go_ret
 exact ⟨rfl,B5.out⟩
end Go.Proofs.YtedmdilabbolaaaDoor
namespace Go.Proofs.YtedmdilabbolaaaDoor
open Go.ChangeShapes Go.WideShapes Go.ChangeAt Go.RowKit Go.PlainAid
set_option linter.unusedVariables false
section
variable {H:Type} {enc:TypeId×Value→H} {P:Program} {w:World} {base:Nat} {spare:Nat→Bool} {held:Bool}
end
theorem cCall:Tryd.prog.cellsOf 23=5:=by kernel_rfl
section
variable {H:Type} {enc:TypeId×Value→H} {w:World} {base:Nat} {spare:Nat→Bool} {held:Bool}
set_option maxRecDepth 100000 in
theorem open_call {r:Reach} {b0:Nat} {v:Value} {dd:DataW H} {ps:List MemPlace} (hval:Value.okWide Tryd.prog w r b0 23 v) (hd:DataW.Trod enc Tryd.prog w base spare held 23 v dd ps):∃ x:Opx,v=vOp x∧OpFit x∧OpInt x:=by
 obtain ⟨cs,rfl,hsz⟩:=okWide_struct Tryd.underlying23 hval
 rw[cCall] at hsz
 obtain ⟨fuel,hf0⟩:=hd
 obtain ⟨xs,m,_,_,_,hlen,hf⟩:=DataW.trod_struct Tryd.underlying23 hf0
 obtain ⟨l⟩:=cs
 obtain ⟨a,b,c,d,e,rfl⟩:=list5 (show l.length=5 from hsz)
 obtain ⟨x0,x1,x2,x3,x4,rfl⟩:=list5 (show xs.length=5 from hlen)
 have f0:=hf 0 _ rfl
 have f1:=hf 1 _ rfl
 have f2:=hf 2 _ rfl
 have f3:=hf 3 _ rfl
 have f4:=hf 4 _ rfl
 simp only[Value.cells,List.getElem?_cons_zero,List.getElem?_cons_succ] at f0 f1 f2 f3 f4
 obtain ⟨i0,e0,_,w0⟩:=DataW.trod_int Tryd.underlying3 f0
 obtain ⟨s1,e1,_,hs1⟩:=DataW.trod_string Tryd.underlying9 f1
 obtain ⟨i2,e2,_,w2⟩:=DataW.trod_int Tryd.underlying3 f2
 obtain ⟨i3,e3,_,w3⟩:=DataW.trod_int Tryd.underlying3 f3
 obtain ⟨s4,e4,_,hs4⟩:=DataW.trod_string Tryd.underlying9 f4
 cases e0
 cases e1
 cases e2
 cases e3
 cases e4
 exact ⟨⟨i0,s1,i2,i3,s4⟩,rfl,⟨hs1,hs4⟩,bounds_i64 w0,bounds_i64 w2,bounds_i64 w3⟩
end
section
variable {H:Type} {enc:TypeId×Value→H} {w:World} {base:Nat} {spare:Nat→Bool} {held:Bool}
end
end Go.Proofs.YtedmdilabbolaaaDoor
