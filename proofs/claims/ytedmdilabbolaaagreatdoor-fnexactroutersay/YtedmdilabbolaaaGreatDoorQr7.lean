/- OpI RtLegI RtCallI RtWkI RtOkI -/
import Derived.Test.YtedmdilabbolaaaGreatDoorRows
import Derived.Test.YtedmdilabbolaaaGreatDoorQr3
import Derived.Test.YtedmdilabbolaaaGreatDoorQr6
import Derived.Test.YtedmdilabbolaaaGreatDoorQr1
import Derived.WalkKit
import Derived.ProofKit
import Derived.OpenShut
import Derived.Below
import Derived.WalkSmall
import Derived.WalkLawsBesides
import Derived.Outline
import Derived.BigQuiet
import Derived.Deep.QuietTactic
import Derived.Handy
import Derived.Deep.Cut
import Derived.Deep.CutRange
import Derived.Laws.StructEq
import Derived.Test.YtedmdilabbolaaaGreatDoorQr2
import Derived.Lib.OwnKind
import Derived.Deep.CutBlock
open List (setIfInBounds_toArray set_cons_zero set_cons_succ)
namespace Go.Proofs.YtedmdilabbolaaaGreatDoor
open Go.ChangeShapes Go.WideShapes Go.ChangeAt Go.RowKit Go.PlainAid
set_option linter.unusedVariables false
set_option maxHeartbeats 4000000 in
theorem implOpOk_1 (k:ByteArray) (f t:Int) (d:ByteArray) (w:World) (hk:k.size≤maxLen):Calls Tryz.prog 85 #[vOp ⟨1,k,f,t,d⟩] w fun e w'=>e=.returned (.bool (opOk ⟨1,k,f,t,d⟩))∧Below w.heap.size w w':=by
 have HE:Hid (opOk ⟨1,k,f,t,d⟩=(spanB f t&&emB k&&emB d)):=by unfold Hid opOk;simp
 have HB:Hid (Below w.heap.size w (w.alloc (.cells #[.int .i64 1,.string k,.int .i64 f,.int .i64 t,.string d] 56))):=below_a1 _ _
 have cS:=implSpanOk f t
 have cI:=inI f 0 1099511627776
 have cH:=inI f 0 100000
 have cK:=fun wx=>implIsKey k wx hk
 clear hk
 rw[show decide (KOk k)=keyB k from by unfold keyB;first | rfl | congr] at cK
 unfold vOp
 simp only
 by_cases hk:k=⟨#[]⟩
 ·subst hk
  rw[em_nil] at HE
  by_cases hd:d=⟨#[]⟩
  ·subst hd
   rw[em_nil] at HE
   go_enter Tryz.func85,Tryz.ntmps85
   go_wp2_with fail
   refine (cS _).mono ?_
   rintro e w' ⟨rfl,rfl⟩
   go_wp2_with fail
   go_ret
   exact ⟨by rw[HE.out];first | rfl | simp,HB.out⟩
  ·obtain ⟨ed1,ed2,ed3,ed4⟩:=em_facts hd
   rw[ed4] at HE
   clear ed4 hd
   go_enter Tryz.func85,Tryz.ntmps85
   go_wp2_with fail
   go_ret
   exact ⟨by rw[HE.out];first | rfl | simp,HB.out⟩
 ·obtain ⟨ek1,ek2,ek3,ek4⟩:=em_facts hk
  rw[ek4] at HE
  clear ek4 hk
  by_cases hd:d=⟨#[]⟩
  ·subst hd
   rw[em_nil] at HE
   go_enter Tryz.func85,Tryz.ntmps85
   go_wp2_with fail
   go_ret
   exact ⟨by rw[HE.out];first | rfl | simp,HB.out⟩
  ·obtain ⟨ed1,ed2,ed3,ed4⟩:=em_facts hd
   rw[ed4] at HE
   clear ed4 hd
   go_enter Tryz.func85,Tryz.ntmps85
   go_wp2_with fail
   go_ret
   exact ⟨by rw[HE.out];first | rfl | simp,HB.out⟩
set_option maxHeartbeats 4000000 in
theorem implOpOk_2 (k:ByteArray) (f t:Int) (d:ByteArray) (w:World) (hk:k.size≤maxLen):Calls Tryz.prog 85 #[vOp ⟨2,k,f,t,d⟩] w fun e w'=>e=.returned (.bool (opOk ⟨2,k,f,t,d⟩))∧Below w.heap.size w w':=by
 have HE:Hid (opOk ⟨2,k,f,t,d⟩=(inRg f 0 1099511627776&&emB k&&zB t&&emB d)):=by unfold Hid opOk;simp
 have HB:Hid (Below w.heap.size w (w.alloc (.cells #[.int .i64 2,.string k,.int .i64 f,.int .i64 t,.string d] 56))):=below_a1 _ _
 have cS:=implSpanOk f t
 have cI:=inI f 0 1099511627776
 have cH:=inI f 0 100000
 have cK:=fun wx=>implIsKey k wx hk
 clear hk
 rw[show decide (KOk k)=keyB k from by unfold keyB;first | rfl | congr] at cK
 unfold vOp
 simp only
 by_cases hk:k=⟨#[]⟩
 ·subst hk
  rw[em_nil] at HE
  by_cases ht:t=0
  ·subst ht
   rw[z_nil] at HE
   by_cases hd:d=⟨#[]⟩
   ·subst hd
    rw[em_nil] at HE
    go_enter Tryz.func85,Tryz.ntmps85
    go_wp2_with fail
    refine (cI _).mono ?_
    rintro e w' ⟨rfl,rfl⟩
    go_wp2_with fail
    go_ret
    exact ⟨by rw[HE.out];first | rfl | simp,HB.out⟩
   ·obtain ⟨ed1,ed2,ed3,ed4⟩:=em_facts hd
    rw[ed4] at HE
    clear ed4 hd
    go_enter Tryz.func85,Tryz.ntmps85
    go_wp2_with fail
    go_ret
    exact ⟨by rw[HE.out];first | rfl | simp,HB.out⟩
  ·obtain ⟨et1,et2,et4⟩:=z_facts ht
   rw[et4] at HE
   clear et4 ht
   by_cases hd:d=⟨#[]⟩
   ·subst hd
    rw[em_nil] at HE
    go_enter Tryz.func85,Tryz.ntmps85
    go_wp2_with fail
    go_ret
    exact ⟨by rw[HE.out];first | rfl | simp,HB.out⟩
   ·obtain ⟨ed1,ed2,ed3,ed4⟩:=em_facts hd
    rw[ed4] at HE
    clear ed4 hd
    go_enter Tryz.func85,Tryz.ntmps85
    go_wp2_with fail
    go_ret
    exact ⟨by rw[HE.out];first | rfl | simp,HB.out⟩
 ·obtain ⟨ek1,ek2,ek3,ek4⟩:=em_facts hk
  rw[ek4] at HE
  clear ek4 hk
  by_cases ht:t=0
  ·subst ht
   rw[z_nil] at HE
   by_cases hd:d=⟨#[]⟩
   ·subst hd
    rw[em_nil] at HE
    go_enter Tryz.func85,Tryz.ntmps85
    go_wp2_with fail
    go_ret
    exact ⟨by rw[HE.out];first | rfl | simp,HB.out⟩
   ·obtain ⟨ed1,ed2,ed3,ed4⟩:=em_facts hd
    rw[ed4] at HE
    clear ed4 hd
    go_enter Tryz.func85,Tryz.ntmps85
    go_wp2_with fail
    go_ret
    exact ⟨by rw[HE.out];first | rfl | simp,HB.out⟩
  ·obtain ⟨et1,et2,et4⟩:=z_facts ht
   rw[et4] at HE
   clear et4 ht
   by_cases hd:d=⟨#[]⟩
   ·subst hd
    rw[em_nil] at HE
    go_enter Tryz.func85,Tryz.ntmps85
    go_wp2_with fail
    go_ret
    exact ⟨by rw[HE.out];first | rfl | simp,HB.out⟩
   ·obtain ⟨ed1,ed2,ed3,ed4⟩:=em_facts hd
    rw[ed4] at HE
    clear ed4 hd
    go_enter Tryz.func85,Tryz.ntmps85
    go_wp2_with fail
    go_ret
    exact ⟨by rw[HE.out];first | rfl | simp,HB.out⟩
set_option maxHeartbeats 4000000 in
theorem implOpOk_3 (k:ByteArray) (f t:Int) (d:ByteArray) (w:World) (hk:k.size≤maxLen):Calls Tryz.prog 85 #[vOp ⟨3,k,f,t,d⟩] w fun e w'=>e=.returned (.bool (opOk ⟨3,k,f,t,d⟩))∧Below w.heap.size w w':=by
 have HE:Hid (opOk ⟨3,k,f,t,d⟩=(inRg f 0 100000&&emB k&&zB t&&emB d)):=by unfold Hid opOk;simp
 have HB:Hid (Below w.heap.size w (w.alloc (.cells #[.int .i64 3,.string k,.int .i64 f,.int .i64 t,.string d] 56))):=below_a1 _ _
 have cS:=implSpanOk f t
 have cI:=inI f 0 1099511627776
 have cH:=inI f 0 100000
 have cK:=fun wx=>implIsKey k wx hk
 clear hk
 rw[show decide (KOk k)=keyB k from by unfold keyB;first | rfl | congr] at cK
 unfold vOp
 simp only
 by_cases hk:k=⟨#[]⟩
 ·subst hk
  rw[em_nil] at HE
  by_cases ht:t=0
  ·subst ht
   rw[z_nil] at HE
   by_cases hd:d=⟨#[]⟩
   ·subst hd
    rw[em_nil] at HE
    go_enter Tryz.func85,Tryz.ntmps85
    go_wp2_with fail
    refine (cH _).mono ?_
    rintro e w' ⟨rfl,rfl⟩
    go_wp2_with fail
    go_ret
    exact ⟨by rw[HE.out];first | rfl | simp,HB.out⟩
   ·obtain ⟨ed1,ed2,ed3,ed4⟩:=em_facts hd
    rw[ed4] at HE
    clear ed4 hd
    go_enter Tryz.func85,Tryz.ntmps85
    go_wp2_with fail
    go_ret
    exact ⟨by rw[HE.out];first | rfl | simp,HB.out⟩
  ·obtain ⟨et1,et2,et4⟩:=z_facts ht
   rw[et4] at HE
   clear et4 ht
   by_cases hd:d=⟨#[]⟩
   ·subst hd
    rw[em_nil] at HE
    go_enter Tryz.func85,Tryz.ntmps85
    go_wp2_with fail
    go_ret
    exact ⟨by rw[HE.out];first | rfl | simp,HB.out⟩
   ·obtain ⟨ed1,ed2,ed3,ed4⟩:=em_facts hd
    rw[ed4] at HE
    clear ed4 hd
    go_enter Tryz.func85,Tryz.ntmps85
    go_wp2_with fail
    go_ret
    exact ⟨by rw[HE.out];first | rfl | simp,HB.out⟩
 ·obtain ⟨ek1,ek2,ek3,ek4⟩:=em_facts hk
  rw[ek4] at HE
  clear ek4 hk
  by_cases ht:t=0
  ·subst ht
   rw[z_nil] at HE
   by_cases hd:d=⟨#[]⟩
   ·subst hd
    rw[em_nil] at HE
    go_enter Tryz.func85,Tryz.ntmps85
    go_wp2_with fail
    go_ret
    exact ⟨by rw[HE.out];first | rfl | simp,HB.out⟩
   ·obtain ⟨ed1,ed2,ed3,ed4⟩:=em_facts hd
    rw[ed4] at HE
    clear ed4 hd
    go_enter Tryz.func85,Tryz.ntmps85
    go_wp2_with fail
    go_ret
    exact ⟨by rw[HE.out];first | rfl | simp,HB.out⟩
  ·obtain ⟨et1,et2,et4⟩:=z_facts ht
   rw[et4] at HE
   clear et4 ht
   by_cases hd:d=⟨#[]⟩
   ·subst hd
    rw[em_nil] at HE
    go_enter Tryz.func85,Tryz.ntmps85
    go_wp2_with fail
    go_ret
    exact ⟨by rw[HE.out];first | rfl | simp,HB.out⟩
   ·obtain ⟨ed1,ed2,ed3,ed4⟩:=em_facts hd
    rw[ed4] at HE
    clear ed4 hd
    go_enter Tryz.func85,Tryz.ntmps85
    go_wp2_with fail
    go_ret
    exact ⟨by rw[HE.out];first | rfl | simp,HB.out⟩
set_option maxHeartbeats 4000000 in
theorem implOpOk_6 (k:ByteArray) (f t:Int) (d:ByteArray) (w:World) (hk:k.size≤maxLen):Calls Tryz.prog 85 #[vOp ⟨6,k,f,t,d⟩] w fun e w'=>e=.returned (.bool (opOk ⟨6,k,f,t,d⟩))∧Below w.heap.size w w':=by
 have HE:Hid (opOk ⟨6,k,f,t,d⟩=(inRg f 0 1099511627776&&emB k&&zB t&&emB d)):=by unfold Hid opOk;simp
 have HB:Hid (Below w.heap.size w (w.alloc (.cells #[.int .i64 6,.string k,.int .i64 f,.int .i64 t,.string d] 56))):=below_a1 _ _
 have cS:=implSpanOk f t
 have cI:=inI f 0 1099511627776
 have cH:=inI f 0 100000
 have cK:=fun wx=>implIsKey k wx hk
 clear hk
 rw[show decide (KOk k)=keyB k from by unfold keyB;first | rfl | congr] at cK
 unfold vOp
 simp only
 by_cases hk:k=⟨#[]⟩
 ·subst hk
  rw[em_nil] at HE
  by_cases ht:t=0
  ·subst ht
   rw[z_nil] at HE
   by_cases hd:d=⟨#[]⟩
   ·subst hd
    rw[em_nil] at HE
    go_enter Tryz.func85,Tryz.ntmps85
    go_wp2_with fail
    refine (cI _).mono ?_
    rintro e w' ⟨rfl,rfl⟩
    go_wp2_with fail
    go_ret
    exact ⟨by rw[HE.out];first | rfl | simp,HB.out⟩
   ·obtain ⟨ed1,ed2,ed3,ed4⟩:=em_facts hd
    rw[ed4] at HE
    clear ed4 hd
    go_enter Tryz.func85,Tryz.ntmps85
    go_wp2_with fail
    go_ret
    exact ⟨by rw[HE.out];first | rfl | simp,HB.out⟩
  ·obtain ⟨et1,et2,et4⟩:=z_facts ht
   rw[et4] at HE
   clear et4 ht
   by_cases hd:d=⟨#[]⟩
   ·subst hd
    rw[em_nil] at HE
    go_enter Tryz.func85,Tryz.ntmps85
    go_wp2_with fail
    go_ret
    exact ⟨by rw[HE.out];first | rfl | simp,HB.out⟩
   ·obtain ⟨ed1,ed2,ed3,ed4⟩:=em_facts hd
    rw[ed4] at HE
    clear ed4 hd
    go_enter Tryz.func85,Tryz.ntmps85
    go_wp2_with fail
    go_ret
    exact ⟨by rw[HE.out];first | rfl | simp,HB.out⟩
 ·obtain ⟨ek1,ek2,ek3,ek4⟩:=em_facts hk
  rw[ek4] at HE
  clear ek4 hk
  by_cases ht:t=0
  ·subst ht
   rw[z_nil] at HE
   by_cases hd:d=⟨#[]⟩
   ·subst hd
    rw[em_nil] at HE
    go_enter Tryz.func85,Tryz.ntmps85
    go_wp2_with fail
    go_ret
    exact ⟨by rw[HE.out];first | rfl | simp,HB.out⟩
   ·obtain ⟨ed1,ed2,ed3,ed4⟩:=em_facts hd
    rw[ed4] at HE
    clear ed4 hd
    go_enter Tryz.func85,Tryz.ntmps85
    go_wp2_with fail
    go_ret
    exact ⟨by rw[HE.out];first | rfl | simp,HB.out⟩
  ·obtain ⟨et1,et2,et4⟩:=z_facts ht
   rw[et4] at HE
   clear et4 ht
   by_cases hd:d=⟨#[]⟩
   ·subst hd
    rw[em_nil] at HE
    go_enter Tryz.func85,Tryz.ntmps85
    go_wp2_with fail
    go_ret
    exact ⟨by rw[HE.out];first | rfl | simp,HB.out⟩
   ·obtain ⟨ed1,ed2,ed3,ed4⟩:=em_facts hd
    rw[ed4] at HE
    clear ed4 hd
    go_enter Tryz.func85,Tryz.ntmps85
    go_wp2_with fail
    go_ret
    exact ⟨by rw[HE.out];first | rfl | simp,HB.out⟩
set_option maxHeartbeats 4000000 in
theorem implOpOk_7 (k:ByteArray) (f t:Int) (d:ByteArray) (w:World) (hk:k.size≤maxLen):Calls Tryz.prog 85 #[vOp ⟨7,k,f,t,d⟩] w fun e w'=>e=.returned (.bool (opOk ⟨7,k,f,t,d⟩))∧Below w.heap.size w w':=by
 have HE:Hid (opOk ⟨7,k,f,t,d⟩=(emB k&&zB f&&zB t&&emB d)):=by unfold Hid opOk;simp
 have HB:Hid (Below w.heap.size w (w.alloc (.cells #[.int .i64 7,.string k,.int .i64 f,.int .i64 t,.string d] 56))):=below_a1 _ _
 have cS:=implSpanOk f t
 have cI:=inI f 0 1099511627776
 have cH:=inI f 0 100000
 have cK:=fun wx=>implIsKey k wx hk
 clear hk
 rw[show decide (KOk k)=keyB k from by unfold keyB;first | rfl | congr] at cK
 unfold vOp
 simp only
 by_cases hk:k=⟨#[]⟩
 ·subst hk
  rw[em_nil] at HE
  by_cases hf:f=0
  ·subst hf
   rw[z_nil] at HE
   by_cases ht:t=0
   ·subst ht
    rw[z_nil] at HE
    by_cases hd:d=⟨#[]⟩
    ·subst hd
     rw[em_nil] at HE
     go_enter Tryz.func85,Tryz.ntmps85
     go_wp2_with fail
     go_ret
     exact ⟨by rw[HE.out];first | rfl | simp,HB.out⟩
    ·obtain ⟨ed1,ed2,ed3,ed4⟩:=em_facts hd
     rw[ed4] at HE
     clear ed4 hd
     go_enter Tryz.func85,Tryz.ntmps85
     go_wp2_with fail
     go_ret
     exact ⟨by rw[HE.out];first | rfl | simp,HB.out⟩
   ·obtain ⟨et1,et2,et4⟩:=z_facts ht
    rw[et4] at HE
    clear et4 ht
    by_cases hd:d=⟨#[]⟩
    ·subst hd
     rw[em_nil] at HE
     go_enter Tryz.func85,Tryz.ntmps85
     go_wp2_with fail
     go_ret
     exact ⟨by rw[HE.out];first | rfl | simp,HB.out⟩
    ·obtain ⟨ed1,ed2,ed3,ed4⟩:=em_facts hd
     rw[ed4] at HE
     clear ed4 hd
     go_enter Tryz.func85,Tryz.ntmps85
     go_wp2_with fail
     go_ret
     exact ⟨by rw[HE.out];first | rfl | simp,HB.out⟩
  ·obtain ⟨ef1,ef2,ef4⟩:=z_facts hf
   rw[ef4] at HE
   clear ef4 hf
   by_cases ht:t=0
   ·subst ht
    rw[z_nil] at HE
    by_cases hd:d=⟨#[]⟩
    ·subst hd
     rw[em_nil] at HE
     go_enter Tryz.func85,Tryz.ntmps85
     go_wp2_with fail
     go_ret
     exact ⟨by rw[HE.out];first | rfl | simp,HB.out⟩
    ·obtain ⟨ed1,ed2,ed3,ed4⟩:=em_facts hd
     rw[ed4] at HE
     clear ed4 hd
     go_enter Tryz.func85,Tryz.ntmps85
     go_wp2_with fail
     go_ret
     exact ⟨by rw[HE.out];first | rfl | simp,HB.out⟩
   ·obtain ⟨et1,et2,et4⟩:=z_facts ht
    rw[et4] at HE
    clear et4 ht
    by_cases hd:d=⟨#[]⟩
    ·subst hd
     rw[em_nil] at HE
     go_enter Tryz.func85,Tryz.ntmps85
     go_wp2_with fail
     go_ret
     exact ⟨by rw[HE.out];first | rfl | simp,HB.out⟩
    ·obtain ⟨ed1,ed2,ed3,ed4⟩:=em_facts hd
     rw[ed4] at HE
     clear ed4 hd
     go_enter Tryz.func85,Tryz.ntmps85
     go_wp2_with fail
     go_ret
     exact ⟨by rw[HE.out];first | rfl | simp,HB.out⟩
 ·obtain ⟨ek1,ek2,ek3,ek4⟩:=em_facts hk
  rw[ek4] at HE
  clear ek4 hk
  by_cases hf:f=0
  ·subst hf
   rw[z_nil] at HE
   by_cases ht:t=0
   ·subst ht
    rw[z_nil] at HE
    by_cases hd:d=⟨#[]⟩
    ·subst hd
     rw[em_nil] at HE
     go_enter Tryz.func85,Tryz.ntmps85
     go_wp2_with fail
     go_ret
     exact ⟨by rw[HE.out];first | rfl | simp,HB.out⟩
    ·obtain ⟨ed1,ed2,ed3,ed4⟩:=em_facts hd
     rw[ed4] at HE
     clear ed4 hd
     go_enter Tryz.func85,Tryz.ntmps85
     go_wp2_with fail
     go_ret
     exact ⟨by rw[HE.out];first | rfl | simp,HB.out⟩
   ·obtain ⟨et1,et2,et4⟩:=z_facts ht
    rw[et4] at HE
    clear et4 ht
    by_cases hd:d=⟨#[]⟩
    ·subst hd
     rw[em_nil] at HE
     go_enter Tryz.func85,Tryz.ntmps85
     go_wp2_with fail
     go_ret
     exact ⟨by rw[HE.out];first | rfl | simp,HB.out⟩
    ·obtain ⟨ed1,ed2,ed3,ed4⟩:=em_facts hd
     rw[ed4] at HE
     clear ed4 hd
     go_enter Tryz.func85,Tryz.ntmps85
     go_wp2_with fail
     go_ret
     exact ⟨by rw[HE.out];first | rfl | simp,HB.out⟩
  ·obtain ⟨ef1,ef2,ef4⟩:=z_facts hf
   rw[ef4] at HE
   clear ef4 hf
   by_cases ht:t=0
   ·subst ht
    rw[z_nil] at HE
    by_cases hd:d=⟨#[]⟩
    ·subst hd
     rw[em_nil] at HE
     go_enter Tryz.func85,Tryz.ntmps85
     go_wp2_with fail
     go_ret
     exact ⟨by rw[HE.out];first | rfl | simp,HB.out⟩
    ·obtain ⟨ed1,ed2,ed3,ed4⟩:=em_facts hd
     rw[ed4] at HE
     clear ed4 hd
     go_enter Tryz.func85,Tryz.ntmps85
     go_wp2_with fail
     go_ret
     exact ⟨by rw[HE.out];first | rfl | simp,HB.out⟩
   ·obtain ⟨et1,et2,et4⟩:=z_facts ht
    rw[et4] at HE
    clear et4 ht
    by_cases hd:d=⟨#[]⟩
    ·subst hd
     rw[em_nil] at HE
     go_enter Tryz.func85,Tryz.ntmps85
     go_wp2_with fail
     go_ret
     exact ⟨by rw[HE.out];first | rfl | simp,HB.out⟩
    ·obtain ⟨ed1,ed2,ed3,ed4⟩:=em_facts hd
     rw[ed4] at HE
     clear ed4 hd
     go_enter Tryz.func85,Tryz.ntmps85
     go_wp2_with fail
     go_ret
     exact ⟨by rw[HE.out];first | rfl | simp,HB.out⟩
set_option maxHeartbeats 4000000 in
theorem implOpOk_5 (k:ByteArray) (f t:Int) (d:ByteArray) (w:World) (hk:k.size≤maxLen):Calls Tryz.prog 85 #[vOp ⟨5,k,f,t,d⟩] w fun e w'=>e=.returned (.bool (opOk ⟨5,k,f,t,d⟩))∧Below w.heap.size w w':=by
 have HE:Hid (opOk ⟨5,k,f,t,d⟩=(keyB k&&spanB f t&&emB d)):=by unfold Hid opOk;simp
 have HB:Hid (Below w.heap.size w (w.alloc (.cells #[.int .i64 5,.string k,.int .i64 f,.int .i64 t,.string d] 56))):=below_a1 _ _
 have cS:=implSpanOk f t
 have cI:=inI f 0 1099511627776
 have cH:=inI f 0 100000
 have cK:=fun wx=>implIsKey k wx hk
 clear hk
 rw[show decide (KOk k)=keyB k from by unfold keyB;first | rfl | congr] at cK
 unfold vOp
 simp only
 by_cases hd:d=⟨#[]⟩
 ·subst hd
  rw[em_nil] at HE
  go_enter Tryz.func85,Tryz.ntmps85
  go_wp2_with fail
  refine (cK _).mono ?_
  rintro e w1 ⟨rfl,rfl⟩
  cases hc:keyB k<;>rw[hc] at HE
  ·go_wp2_with fail
   go_ret
   exact ⟨by rw[HE.out];first | rfl | simp,HB.out⟩
  ·go_wp2_with fail
   refine (cS _).mono ?_
   rintro e w' ⟨rfl,rfl⟩
   go_wp2_with fail
   go_ret
   exact ⟨by rw[HE.out];first | rfl | simp,HB.out⟩
 ·obtain ⟨ed1,ed2,ed3,ed4⟩:=em_facts hd
  rw[ed4] at HE
  clear ed4 hd
  go_enter Tryz.func85,Tryz.ntmps85
  go_wp2_with fail
  go_ret
  exact ⟨by rw[HE.out];first | rfl | simp,HB.out⟩
set_option maxHeartbeats 4000000 in
theorem implOpOk_4 (k:ByteArray) (f t:Int) (d:ByteArray) (w:World) (hk:k.size≤maxLen) (hd:d.size≤1048576) (hst:SumTab w) (a0 a1 a2:Addr) (he:Errs w a0 a1 a2):Calls Tryz.prog 85 #[vOp ⟨4,k,f,t,d⟩] w fun e w'=>e=.returned (.bool (opOk ⟨4,k,f,t,d⟩))∧Below w.heap.size w w':=by
 have HE:Hid (opOk ⟨4,k,f,t,d⟩=(keyB k&&rdB d&&zB f&&zB t)):=by unfold Hid opOk;simp
 obtain ⟨X,hX⟩:∃ X,X=w.alloc (.cells #[.int .i64 4,.string k,.int .i64 f,.int .i64 t,.string d] 56):=⟨_,rfl⟩
 have HBX:Hid (Below w.heap.size w X):=by rw[hX];exact below_a1 _ _
 have KX:Hid (CellO X w.heap.size ⟨4,k,f,t,d⟩):=by rw[hX];exact CellO.new w ⟨4,k,f,t,d⟩ _
 have cR:=implReadBlock d X hd (hst.on HBX.out) a0 a1 a2 (he.on HBX.out)
 have cK:=fun wx=>implIsKey k wx hk
 clear hk hd hst he
 rw[show decide (KOk k)=keyB k from by unfold keyB;first | rfl | congr] at cK
 unfold vOp
 simp only
 go_enter Tryz.func85,Tryz.ntmps85
 go_wp2_with fail
 rw[← hX]
 clear hX
 refine cR.mono ?_
 rintro e w1 ⟨⟨u,l,ok,hA,rfl,hO⟩,hb⟩
 have hr:=rdB_is hA
 rw[hr] at HE
 have HB:Hid (Below w.heap.size w w1):=HBX.out.trans (hb.mono HBX.out.size)
 obtain ⟨⟨g0,g1,g2,g3,g4⟩,_⟩:=KX.out.on hb KX.out.2
 simp only at g0 g1 g2 g3 g4
 obtain ⟨Au,mu,cu,rfl⟩:=hO.shape
 clear hA hO hb hr cR KX
 by_cases hf:f=0
 ·subst hf
  rw[z_nil] at HE
  by_cases ht:t=0
  ·subst ht
   rw[z_nil] at HE
   go_wp2_with fail
   refine (cK _).mono ?_
   rintro e w' ⟨rfl,rfl⟩
   cases hc:keyB k<;>rw[hc] at HE
   ·go_wp2_with fail
    go_ret
    exact ⟨by rw[HE.out];first | rfl | simp,HB.out⟩
   ·go_wp2_with fail
    go_ret
    exact ⟨by rw[HE.out];first | rfl | simp,HB.out⟩
  ·obtain ⟨et1,et2,et4⟩:=z_facts ht
   rw[et4] at HE
   clear et4 ht
   go_wp2_with fail
   go_ret
   exact ⟨by rw[HE.out];first | rfl | simp,HB.out⟩
 ·obtain ⟨ef1,ef2,ef4⟩:=z_facts hf
  rw[ef4] at HE
  clear ef4 hf
  by_cases ht:t=0
  ·subst ht
   rw[z_nil] at HE
   go_wp2_with fail
   go_ret
   exact ⟨by rw[HE.out];first | rfl | simp,HB.out⟩
  ·obtain ⟨et1,et2,et4⟩:=z_facts ht
   rw[et4] at HE
   clear et4 ht
   go_wp2_with fail
   go_ret
   exact ⟨by rw[HE.out];first | rfl | simp,HB.out⟩
set_option maxHeartbeats 4000000 in
theorem implOpOk_no (x:Opx) (w:World) (h:x.kind≠1∧x.kind≠2∧x.kind≠3∧x.kind≠4∧x.kind≠5∧x.kind≠6∧x.kind≠7):Calls Tryz.prog 85 #[vOp x] w fun e w'=>e=.returned (.bool (opOk x))∧Below w.heap.size w w':=by
 obtain ⟨n,k,f,t,d⟩:=x
 simp only at h
 obtain ⟨h1,h2,h3,h4,h5,h6,h7⟩:=h
 have HE:Hid (opOk ⟨n,k,f,t,d⟩=false):=by unfold Hid opOk;simp[h1,h2,h3,h4,h5,h6,h7]
 have HB:Hid (Below w.heap.size w (w.alloc (.cells #[.int .i64 n,.string k,.int .i64 f,.int .i64 t,.string d] 56))):=below_a1 _ _
 have z1:(n == 1)=false:=by simpa using h1
 have z2:(n == 2)=false:=by simpa using h2
 have z3:(n == 3)=false:=by simpa using h3
 have z4:(n == 4)=false:=by simpa using h4
 have z5:(n == 5)=false:=by simpa using h5
 have z6:(n == 6)=false:=by simpa using h6
 have z7:(n == 7)=false:=by simpa using h7
 clear h1 h2 h3 h4 h5 h6 h7
 unfold vOp
 simp only
 go_enter Tryz.func85,Tryz.ntmps85
 go_wp2_with fail
 go_ret
 exact ⟨by rw[HE.out];rfl,HB.out⟩
theorem implOpOk (x:Opx) (w:World) (hk:x.key.size≤maxLen) (hd:x.data.size≤1048576) (hst:SumTab w) (a0 a1 a2:Addr) (he:Errs w a0 a1 a2):Calls Tryz.prog 85 #[vOp x] w fun e w'=>e=.returned (.bool (opOk x))∧Below w.heap.size w w':=by
 by_cases h:x.kind≠1∧x.kind≠2∧x.kind≠3∧x.kind≠4∧x.kind≠5∧x.kind≠6∧x.kind≠7
 ·exact implOpOk_no x w h
 ·obtain ⟨n,k,f,t,d⟩:=x
  simp only at h hk hd
  have:n=1∨n=2∨n=3∨n=4∨n=5∨n=6∨n=7:=by omega
  rcases this with rfl | rfl | rfl | rfl | rfl | rfl | rfl
  ·exact implOpOk_1 k f t d w hk
  ·exact implOpOk_2 k f t d w hk
  ·exact implOpOk_3 k f t d w hk
  ·exact implOpOk_4 k f t d w hk hd hst a0 a1 a2 he
  ·exact implOpOk_5 k f t d w hk
  ·exact implOpOk_6 k f t d w hk
  ·exact implOpOk_7 k f t d w hk
end Go.Proofs.YtedmdilabbolaaaGreatDoor
namespace Go.Proofs.YtedmdilabbolaaaGreatDoor
open Go.ChangeShapes Go.WideShapes Go.ChangeAt Go.RowKit Go.PlainAid
set_option linter.unusedVariables false
def Told (p:Prop) (e:Ending):Prop:=∃ b:Bool,e=.returned (.bool b)∧(b=true↔p)
theorem Told.yes {p:Prop} (h:p):Told p (.returned (.bool true)):=⟨true,rfl,fun _=>h,fun _=>rfl⟩
theorem Told.no {p:Prop} (h:¬ p):Told p (.returned (.bool false)):=⟨false,rfl,fun e=>(by cases e),fun e=>absurd e h⟩
theorem Told.arms {p:Prop} {e:Ending} (h:Told p e):(e=.returned (.bool true)∧Hid p)∨(e=.returned (.bool false)∧Hid (¬ p)):=by
 obtain ⟨b,e1,h1⟩:=h
 cases b
 ·exact .inr ⟨e1,fun hp=>by have:=h1.2 hp;cases this⟩
 ·exact .inl ⟨e1,h1.1 rfl⟩
theorem serI1 (n:Int) (w:World):Calls Tryz.prog 84 #[.int .i64 n] w fun e w'=>e=.returned (.bool (!inRg n 0 1000000))∧w=w':=by
 have c1:=inI n 0 1000000
 generalize inRg n 0 1000000=b at *
 go_enter Tryz.func84,Tryz.ntmps84
 go_wp2_with fail
 refine (c1 _).mono ?_
 rintro e w' ⟨rfl,rfl⟩
 go_wp2_with fail
 go_ret
 exact ⟨rfl,rfl⟩
set_option maxHeartbeats 1000000 in
theorem idxI (l:List Int) (A:Option Addr) (cap:Nat) (w:World) (B:Nat) (hu:∀ k,k<l.length→∃ g off,A=some ⟨g,off,none⟩∧g<B∧w.cell? ⟨g,off+k,none⟩=some (.int .i64 (l.getD k 0))) (hn:l.length≤1048576) :
  Calls Tryz.prog 121 #[.slice A l.length cap,.func (.func 84) #[] #[]] w fun e w'=>(∃ i:Int,e=.returned (.int .i64 i)∧Hid (i=-1∧(∀ j,j<l.length→inRg (l.getD j 0) 0 1000000=true)∨0≤i∧∃ j,j<l.length∧inRg (l.getD j 0) 0 1000000=false))∧w=w':=by
 have HU:=Hid.mkQ hu
 have qn:(l.length:Int)≤1048576:=by omega
 clear hu hn
 generalize hN:l.length=n at *
 go_enter Tryz.func121,Tryz.ntmps121
 go_wp2_with fail
 go_loopw [8] (fun s8 wr=>∃ k:Nat,k≤n∧s8=.int .i64 (k:Int)∧Hid (∀ j,j<k→inRg (l.getD j 0) 0 1000000=true)∧w=wr) (fun i _=>n - (intOf i).toNat)
 case atStart=>exact ⟨0,Nat.zero_le _,rfl,fun j hj=>absurd hj (Nat.not_lt_zero _),rfl⟩
 case round =>
  obtain ⟨k,hk,rfl,hall,rfl⟩:=hrel
  by_cases hkl:k<n
  ·have q:(k:Int)<(n:Int):=by omega
   obtain ⟨g,off,rfl,hg,hc⟩:=HU.out k hkl
   obtain ⟨y,hy⟩:∃ y,y=l.getD k 0:=⟨_,rfl⟩
   rw[← hy] at hc
   have HY:=Hid.mkQ hy
   clear hy
   have c1:=serI1 y
   cases hb:inRg y 0 1000000<;>rw[hb] at c1
   ·go_wp2_with fail
    refine (c1 _).mono ?_
    rintro e w' ⟨rfl,rfl⟩
    go_wp2_with fail
    go_ret
    exact ⟨⟨_,rfl,.inr ⟨by omega,k,hkl,by rw[← HY.out];exact hb⟩⟩,rfl⟩
   ·go_wp2_with fail
    refine (c1 _).mono ?_
    rintro e w' ⟨rfl,rfl⟩
    have HN:Hid (∀ j,j<k+1→inRg (l.getD j 0) 0 1000000=true):=fun j hj=>by
     by_cases e:j=k
     ·subst e;rw[← HY.out];exact hb
     ·exact hall.out j (by omega)
    clear c1 hb hc
    go_wp2_with fail
    go_roundw
    case rel=>exact ⟨k+1,by omega,by go_num,HN,by first | trivial | rfl⟩
    case measure=>simp[intOf];omega
  ·obtain rfl:k=n:=by omega
   go_wp2_with fail
   go_ret
   exact ⟨⟨_,rfl,.inl ⟨rfl,hall.out⟩⟩,rfl⟩
theorem hasI (l:List Int) (A:Option Addr) (cap:Nat) (w:World) (B:Nat) (hu:∀ k,k<l.length→∃ g off,A=some ⟨g,off,none⟩∧g<B∧w.cell? ⟨g,off+k,none⟩=some (.int .i64 (l.getD k 0))) (hn:l.length≤1048576) :
  Calls Tryz.prog 83 #[.slice A l.length cap,.func (.func 84) #[] #[]] w fun e w'=>Told (∃ j,j<l.length∧inRg (l.getD j 0) 0 1000000=false) e∧w=w':=by
 have c1:=idxI l A cap w B hu hn
 clear hu hn
 go_enter Tryz.func83,Tryz.ntmps83
 go_wp2_with fail
 refine c1.mono ?_
 rintro e w' ⟨⟨i,rfl,hi⟩,rfl⟩
 rcases hi.out with ⟨rfl,ha⟩ | ⟨h0,hb⟩
 ·have HA:=Hid.mkQ ha
  clear ha hi
  go_wp2_with fail
  go_ret
  exact ⟨Told.no (fun ⟨j,hj,hb⟩=>by have:=HA.out j hj;rw[hb] at this;cases this),rfl⟩
 ·have HB:=Hid.mkQ hb
  have q0:decide (0≤i)=true:=decide_eq_true h0
  clear hb hi
  go_wp2_with fail
  go_ret
  exact ⟨Told.yes HB.out,rfl⟩
set_option maxRecDepth 4000 in
theorem implSerialsOk (l:List Int) (A:Option Addr) (cap:Nat) (w:World) (B:Nat) (hu:∀ k,k<l.length→∃ g off,A=some ⟨g,off,none⟩∧g<B∧w.cell? ⟨g,off+k,none⟩=some (.int .i64 (l.getD k 0))) (hn:l.length≤1048576) :
  Calls Tryz.prog 39 #[.slice A l.length cap] w fun e w'=>Told (l.length=3∧∀ j,j<l.length→inRg (l.getD j 0) 0 1000000=true) e∧w=w':=by
 have c1:=hasI l A cap w B hu hn
 clear hu
 by_cases h3:l.length=3
 ·have q3:((l.length:Int) == 3)=true:=by rw[h3];rfl
  have H3:=Hid.mkQ h3
  clear h3 hn
  generalize HP:Told (l.length=3∧∀ j,j<l.length→inRg (l.getD j 0) 0 1000000=true)=P at *
  go_enter Tryz.func39,Tryz.ntmps39
  go_wp2_with fail
  refine c1.mono ?_
  rintro e w' ⟨hb,rfl⟩
  rcases hb.arms with ⟨rfl,hq⟩ | ⟨rfl,hq⟩
  ·go_wp2_with fail
   go_ret
   subst HP
   exact ⟨Told.no (fun ⟨_,h⟩=>by obtain ⟨j,hj,hf⟩:=hq;have:=h j hj;rw[hf] at this;cases this),rfl⟩
  ·go_wp2_with fail
   go_ret
   subst HP
   exact ⟨Told.yes ⟨H3.out,fun j hj=>by cases hf:inRg (l.getD j 0) 0 1000000;exact absurd (show ∃ j,j<l.length∧inRg (l.getD j 0) 0 1000000=false from ⟨j,hj,hf⟩) hq;rfl⟩,rfl⟩
 ·have q3:((l.length:Int) == 3)=false:=by simp;omega
  have H3:=Hid.mkQ h3
  clear h3 hn c1
  generalize HP:Told (l.length=3∧∀ j,j<l.length→inRg (l.getD j 0) 0 1000000=true)=P at *
  go_enter Tryz.func39,Tryz.ntmps39
  go_wp2_with fail
  go_ret
  subst HP
  exact ⟨Told.no (fun h=>H3.out h.1),rfl⟩
set_option maxHeartbeats 2000000 in
theorem legI1 (x:Lgx) (w:World) (hk:x.key.size≤maxLen) (hd:x.data.size≤1048576) (ht:x.told.size≤maxLen) (hst:SumTab w) (e0 e1 e2:Addr) (he:Errs w e0 e1 e2):Calls Tryz.prog 125 #[vLgx x] w fun e w'=>e=.returned (.bool (!lgB x))∧Below w.heap.size w w':=by
 have a1:=fun wx=>inI x.group 0 2 wx
 have a2:=fun wx=>inI x.serial 1 1000000 wx
 have a4:=fun wx=>implAnswerOk x.ans wx ht
 have HE:Hid (lgB x=(inRg x.group 0 2&&inRg x.serial 1 1000000&&opOk x.op&&ansOk x.ans)):=rfl
 obtain ⟨X,hX⟩:∃ X,X=w.alloc (.cells #[.int .i64 x.group,.int .i64 x.serial,.int .i64 x.kind,.string x.key,.int .i64 x.frm,.int .i64 x.til,.string x.data,.int .i64 x.code,.int .i64 x.index,.int .i64 x.mark,.string x.told] 74):=⟨_,rfl⟩
 have HB:Hid (Below w.heap.size w X):=by unfold Hid;rw[hX];exact below_a1 _ _
 have KX:Hid (Blk X w.heap.size #[.int .i64 x.group,.int .i64 x.serial,.int .i64 x.kind,.string x.key,.int .i64 x.frm,.int .i64 x.til,.string x.data,.int .i64 x.code,.int .i64 x.index,.int .i64 x.mark,.string x.told] 74):=by unfold Hid;rw[hX];exact Blk.new w _ _
 have a3:=implOpOk x.op X hk hd (hst.on HB.out) e0 e1 e2 (he.on HB.out)
 clear hst he
 unfold vLgx
 simp only[vOp,vAns,Lgx.op,Lgx.ans] at a3 a4 HE
 generalize lgB x=lb at *
 generalize opOk ⟨x.kind,x.key,x.frm,x.til,x.data⟩=ob at *
 generalize ansOk ⟨x.code,x.index,x.mark,x.told⟩=ab at *
 cases h1:inRg x.group 0 2<;>rw[h1] at a1 HE<;>clear h1
 ·go_enter Tryz.func125,Tryz.ntmps125
  obtain ⟨k0,k1,k2,k3,k4,k5,k6,k7,k8,k9,k10⟩:X.cell? ⟨w.heap.size,0,none⟩=some (.int .i64 x.group)∧X.cell? ⟨w.heap.size,1,none⟩=some (.int .i64 x.serial)∧X.cell? ⟨w.heap.size,2,none⟩=some (.int .i64 x.kind)∧X.cell? ⟨w.heap.size,3,none⟩=some (.string x.key)∧X.cell? ⟨w.heap.size,4,none⟩=some (.int .i64 x.frm)∧X.cell? ⟨w.heap.size,5,none⟩=some (.int .i64 x.til)∧X.cell? ⟨w.heap.size,6,none⟩=some (.string x.data)∧X.cell? ⟨w.heap.size,7,none⟩=some (.int .i64 x.code)∧X.cell? ⟨w.heap.size,8,none⟩=some (.int .i64 x.index)∧X.cell? ⟨w.heap.size,9,none⟩=some (.int .i64 x.mark)∧X.cell? ⟨w.heap.size,10,none⟩=some (.string x.told):=⟨KX.out.cell 0 _ rfl,KX.out.cell 1 _ rfl,KX.out.cell 2 _ rfl,KX.out.cell 3 _ rfl,KX.out.cell 4 _ rfl,KX.out.cell 5 _ rfl,KX.out.cell 6 _ rfl,KX.out.cell 7 _ rfl,KX.out.cell 8 _ rfl,KX.out.cell 9 _ rfl,KX.out.cell 10 _ rfl⟩
  rw[hX] at k0 k1 k2 k3 k4 k5 k6 k7 k8 k9 k10
  go_wp2_with fail
  rw[← hX]
  rw[← hX] at k0 k1 k2 k3 k4 k5 k6 k7 k8 k9 k10
  clear hX
  refine (a1 _).mono ?_
  rintro e w' ⟨rfl,rfl⟩
  go_wp2_with fail
  go_ret
  exact ⟨by rw[HE.out];rfl,HB.out⟩
 cases h2:inRg x.serial 1 1000000<;>rw[h2] at a2 HE<;>clear h2
 ·go_enter Tryz.func125,Tryz.ntmps125
  obtain ⟨k0,k1,k2,k3,k4,k5,k6,k7,k8,k9,k10⟩:X.cell? ⟨w.heap.size,0,none⟩=some (.int .i64 x.group)∧X.cell? ⟨w.heap.size,1,none⟩=some (.int .i64 x.serial)∧X.cell? ⟨w.heap.size,2,none⟩=some (.int .i64 x.kind)∧X.cell? ⟨w.heap.size,3,none⟩=some (.string x.key)∧X.cell? ⟨w.heap.size,4,none⟩=some (.int .i64 x.frm)∧X.cell? ⟨w.heap.size,5,none⟩=some (.int .i64 x.til)∧X.cell? ⟨w.heap.size,6,none⟩=some (.string x.data)∧X.cell? ⟨w.heap.size,7,none⟩=some (.int .i64 x.code)∧X.cell? ⟨w.heap.size,8,none⟩=some (.int .i64 x.index)∧X.cell? ⟨w.heap.size,9,none⟩=some (.int .i64 x.mark)∧X.cell? ⟨w.heap.size,10,none⟩=some (.string x.told):=⟨KX.out.cell 0 _ rfl,KX.out.cell 1 _ rfl,KX.out.cell 2 _ rfl,KX.out.cell 3 _ rfl,KX.out.cell 4 _ rfl,KX.out.cell 5 _ rfl,KX.out.cell 6 _ rfl,KX.out.cell 7 _ rfl,KX.out.cell 8 _ rfl,KX.out.cell 9 _ rfl,KX.out.cell 10 _ rfl⟩
  rw[hX] at k0 k1 k2 k3 k4 k5 k6 k7 k8 k9 k10
  go_wp2_with fail
  rw[← hX]
  rw[← hX] at k0 k1 k2 k3 k4 k5 k6 k7 k8 k9 k10
  clear hX
  refine (a1 _).mono ?_
  rintro e w' ⟨rfl,rfl⟩
  go_wp2_with fail
  refine (a2 _).mono ?_
  rintro e w' ⟨rfl,rfl⟩
  go_wp2_with fail
  go_ret
  exact ⟨by rw[HE.out];rfl,HB.out⟩
 cases ob
 ·go_enter Tryz.func125,Tryz.ntmps125
  obtain ⟨k0,k1,k2,k3,k4,k5,k6,k7,k8,k9,k10⟩:X.cell? ⟨w.heap.size,0,none⟩=some (.int .i64 x.group)∧X.cell? ⟨w.heap.size,1,none⟩=some (.int .i64 x.serial)∧X.cell? ⟨w.heap.size,2,none⟩=some (.int .i64 x.kind)∧X.cell? ⟨w.heap.size,3,none⟩=some (.string x.key)∧X.cell? ⟨w.heap.size,4,none⟩=some (.int .i64 x.frm)∧X.cell? ⟨w.heap.size,5,none⟩=some (.int .i64 x.til)∧X.cell? ⟨w.heap.size,6,none⟩=some (.string x.data)∧X.cell? ⟨w.heap.size,7,none⟩=some (.int .i64 x.code)∧X.cell? ⟨w.heap.size,8,none⟩=some (.int .i64 x.index)∧X.cell? ⟨w.heap.size,9,none⟩=some (.int .i64 x.mark)∧X.cell? ⟨w.heap.size,10,none⟩=some (.string x.told):=⟨KX.out.cell 0 _ rfl,KX.out.cell 1 _ rfl,KX.out.cell 2 _ rfl,KX.out.cell 3 _ rfl,KX.out.cell 4 _ rfl,KX.out.cell 5 _ rfl,KX.out.cell 6 _ rfl,KX.out.cell 7 _ rfl,KX.out.cell 8 _ rfl,KX.out.cell 9 _ rfl,KX.out.cell 10 _ rfl⟩
  rw[hX] at k0 k1 k2 k3 k4 k5 k6 k7 k8 k9 k10
  go_wp2_with fail
  rw[← hX]
  rw[← hX] at k0 k1 k2 k3 k4 k5 k6 k7 k8 k9 k10
  clear hX
  refine (a1 _).mono ?_
  rintro e w' ⟨rfl,rfl⟩
  go_wp2_with fail
  refine (a2 _).mono ?_
  rintro e w' ⟨rfl,rfl⟩
  go_wp2_with fail
  refine a3.mono ?_
  rintro e w2 ⟨rfl,hb⟩
  have B2:Hid (Below w.heap.size w w2):=HB.out.trans (hb.mono HB.out.size)
  have K2:=Hid.mkQ (KX.out.on hb KX.out.lt)
  clear hb k0 k1 k2 k3 k4 k5 k6 k7 k8 k9 k10
  obtain ⟨k0,k1,k2,k3,k4,k5,k6,k7,k8,k9,k10⟩:w2.cell? ⟨w.heap.size,0,none⟩=some (.int .i64 x.group)∧w2.cell? ⟨w.heap.size,1,none⟩=some (.int .i64 x.serial)∧w2.cell? ⟨w.heap.size,2,none⟩=some (.int .i64 x.kind)∧w2.cell? ⟨w.heap.size,3,none⟩=some (.string x.key)∧w2.cell? ⟨w.heap.size,4,none⟩=some (.int .i64 x.frm)∧w2.cell? ⟨w.heap.size,5,none⟩=some (.int .i64 x.til)∧w2.cell? ⟨w.heap.size,6,none⟩=some (.string x.data)∧w2.cell? ⟨w.heap.size,7,none⟩=some (.int .i64 x.code)∧w2.cell? ⟨w.heap.size,8,none⟩=some (.int .i64 x.index)∧w2.cell? ⟨w.heap.size,9,none⟩=some (.int .i64 x.mark)∧w2.cell? ⟨w.heap.size,10,none⟩=some (.string x.told):=⟨K2.out.cell 0 _ rfl,K2.out.cell 1 _ rfl,K2.out.cell 2 _ rfl,K2.out.cell 3 _ rfl,K2.out.cell 4 _ rfl,K2.out.cell 5 _ rfl,K2.out.cell 6 _ rfl,K2.out.cell 7 _ rfl,K2.out.cell 8 _ rfl,K2.out.cell 9 _ rfl,K2.out.cell 10 _ rfl⟩
  go_wp2_with fail
  go_ret
  exact ⟨by rw[HE.out];rfl,B2.out⟩
 go_enter Tryz.func125,Tryz.ntmps125
 obtain ⟨k0,k1,k2,k3,k4,k5,k6,k7,k8,k9,k10⟩:X.cell? ⟨w.heap.size,0,none⟩=some (.int .i64 x.group)∧X.cell? ⟨w.heap.size,1,none⟩=some (.int .i64 x.serial)∧X.cell? ⟨w.heap.size,2,none⟩=some (.int .i64 x.kind)∧X.cell? ⟨w.heap.size,3,none⟩=some (.string x.key)∧X.cell? ⟨w.heap.size,4,none⟩=some (.int .i64 x.frm)∧X.cell? ⟨w.heap.size,5,none⟩=some (.int .i64 x.til)∧X.cell? ⟨w.heap.size,6,none⟩=some (.string x.data)∧X.cell? ⟨w.heap.size,7,none⟩=some (.int .i64 x.code)∧X.cell? ⟨w.heap.size,8,none⟩=some (.int .i64 x.index)∧X.cell? ⟨w.heap.size,9,none⟩=some (.int .i64 x.mark)∧X.cell? ⟨w.heap.size,10,none⟩=some (.string x.told):=⟨KX.out.cell 0 _ rfl,KX.out.cell 1 _ rfl,KX.out.cell 2 _ rfl,KX.out.cell 3 _ rfl,KX.out.cell 4 _ rfl,KX.out.cell 5 _ rfl,KX.out.cell 6 _ rfl,KX.out.cell 7 _ rfl,KX.out.cell 8 _ rfl,KX.out.cell 9 _ rfl,KX.out.cell 10 _ rfl⟩
 rw[hX] at k0 k1 k2 k3 k4 k5 k6 k7 k8 k9 k10
 go_wp2_with fail
 rw[← hX]
 rw[← hX] at k0 k1 k2 k3 k4 k5 k6 k7 k8 k9 k10
 clear hX
 refine (a1 _).mono ?_
 rintro e w' ⟨rfl,rfl⟩
 go_wp2_with fail
 refine (a2 _).mono ?_
 rintro e w' ⟨rfl,rfl⟩
 go_wp2_with fail
 refine a3.mono ?_
 rintro e w2 ⟨rfl,hb⟩
 have B2:Hid (Below w.heap.size w w2):=HB.out.trans (hb.mono HB.out.size)
 have K2:=Hid.mkQ (KX.out.on hb KX.out.lt)
 clear hb k0 k1 k2 k3 k4 k5 k6 k7 k8 k9 k10
 obtain ⟨k0,k1,k2,k3,k4,k5,k6,k7,k8,k9,k10⟩:w2.cell? ⟨w.heap.size,0,none⟩=some (.int .i64 x.group)∧w2.cell? ⟨w.heap.size,1,none⟩=some (.int .i64 x.serial)∧w2.cell? ⟨w.heap.size,2,none⟩=some (.int .i64 x.kind)∧w2.cell? ⟨w.heap.size,3,none⟩=some (.string x.key)∧w2.cell? ⟨w.heap.size,4,none⟩=some (.int .i64 x.frm)∧w2.cell? ⟨w.heap.size,5,none⟩=some (.int .i64 x.til)∧w2.cell? ⟨w.heap.size,6,none⟩=some (.string x.data)∧w2.cell? ⟨w.heap.size,7,none⟩=some (.int .i64 x.code)∧w2.cell? ⟨w.heap.size,8,none⟩=some (.int .i64 x.index)∧w2.cell? ⟨w.heap.size,9,none⟩=some (.int .i64 x.mark)∧w2.cell? ⟨w.heap.size,10,none⟩=some (.string x.told):=⟨K2.out.cell 0 _ rfl,K2.out.cell 1 _ rfl,K2.out.cell 2 _ rfl,K2.out.cell 3 _ rfl,K2.out.cell 4 _ rfl,K2.out.cell 5 _ rfl,K2.out.cell 6 _ rfl,K2.out.cell 7 _ rfl,K2.out.cell 8 _ rfl,K2.out.cell 9 _ rfl,K2.out.cell 10 _ rfl⟩
 go_wp2_with fail
 refine (a4 _).mono ?_
 rintro e w3 ⟨rfl,hb⟩
 have B3:Hid (Below w.heap.size w w3):=B2.out.trans (hb.mono B2.out.size)
 clear hb
 go_wp2_with fail
 go_ret
 exact ⟨by rw[HE.out];rfl,B3.out⟩
def LegsAt (w:World) (B:Nat) (A:Option Addr) (l:List Lgx):Prop:=∀ k,k<l.length→∃ g off,A=some ⟨g,off,none⟩∧g<B∧w.cell? ⟨g,off+k*11,none⟩=some (.int .i64 (l.getD k default).group)∧w.cell? ⟨g,off+k*11+1,none⟩=some (.int .i64 (l.getD k default).serial)∧w.cell? ⟨g,off+k*11+2,none⟩=some (.int .i64 (l.getD k default).kind)∧w.cell? ⟨g,off+k*11+3,none⟩=some (.string (l.getD k default).key)∧w.cell? ⟨g,off+k*11+4,none⟩=some (.int .i64 (l.getD k default).frm)∧w.cell? ⟨g,off+k*11+5,none⟩=some (.int .i64 (l.getD k default).til)∧w.cell? ⟨g,off+k*11+6,none⟩=some (.string (l.getD k default).data)∧w.cell? ⟨g,off+k*11+7,none⟩=some (.int .i64 (l.getD k default).code)∧w.cell? ⟨g,off+k*11+8,none⟩=some (.int .i64 (l.getD k default).index)∧w.cell? ⟨g,off+k*11+9,none⟩=some (.int .i64 (l.getD k default).mark)∧w.cell? ⟨g,off+k*11+10,none⟩=some (.string (l.getD k default).told)
set_option maxHeartbeats 2000000 in
theorem idxL (l:List Lgx) (A:Option Addr) (cap:Nat) (w:World) (B:Nat) (hu:LegsAt w B A l) (hB:B≤w.heap.size) (hn:l.length≤1048576) (hx:∀ y∈l,y.key.size≤maxLen∧y.data.size≤1048576∧y.told.size≤maxLen) (hst:SumTab w) (e0 e1 e2:Addr) (he:Errs w e0 e1 e2) :
  Calls Tryz.prog 148 #[.slice A l.length cap,.func (.func 125) #[] #[]] w fun e w'=>(∃ i:Int,e=.returned (.int .i64 i)∧Hid (i=-1∧(∀ j,j<l.length→lgB (l.getD j default)=true)∨0≤i∧∃ j,j<l.length∧lgB (l.getD j default)=false))∧Below w.heap.size w w':=by
 have HU:=Hid.mkQ hu
 have HB:=Hid.mkQ hB
 have HX:=Hid.mkQ hx
 have HST:=Hid.mkQ hst
 have HER:=Hid.mkQ he
 have qn:(l.length:Int)≤1048576:=by omega
 clear hu hn hB hx hst he
 generalize hN:l.length=n at *
 go_enter Tryz.func148,Tryz.ntmps148
 go_wp2_with fail
 go_loopw [8] (fun s8 wr=>∃ k:Nat,k≤n∧s8=.int .i64 (k:Int)∧Hid (∀ j,j<k→lgB (l.getD j default)=true)∧Below w.heap.size w wr) (fun i _=>n - (intOf i).toNat)
 case atStart=>exact ⟨0,Nat.zero_le _,rfl,fun j hj=>absurd hj (Nat.not_lt_zero _),Below.refl _ _⟩
 case round =>
  obtain ⟨k,hk,rfl,hall,hbo⟩:=hrel
  have BO:=Hid.mkQ hbo
  clear hbo
  by_cases hkl:k<n
  ·have q:(k:Int)<(n:Int):=by omega
   obtain ⟨g,off,rfl,hg,c0,c1,c2,c3,c4,c5,c6,c7,c8,c9,c10⟩:=HU.out k (by rw[hN];exact hkl)
   have hm:l.getD k default∈l:=by
    have hk2:k<l.length:=by rw[hN];exact hkl
    rw[List.getD_eq_getElem?_getD,List.getElem?_eq_getElem hk2]
    exact List.getElem_mem hk2
   obtain ⟨y,hy⟩:∃ y,y=l.getD k default:=⟨_,rfl⟩
   rw[← hy] at c0 c1 c2 c3 c4 c5 c6 c7 c8 c9 c10 hm
   have HY:=Hid.mkQ hy
   have HG:=Hid.mkQ (Nat.lt_of_lt_of_le hg HB.out)
   rw[← BO.out.cell (p:=⟨g,_,none⟩) HG.out] at c0
   rw[← BO.out.cell (p:=⟨g,_,none⟩) HG.out] at c1
   rw[← BO.out.cell (p:=⟨g,_,none⟩) HG.out] at c2
   rw[← BO.out.cell (p:=⟨g,_,none⟩) HG.out] at c3
   rw[← BO.out.cell (p:=⟨g,_,none⟩) HG.out] at c4
   rw[← BO.out.cell (p:=⟨g,_,none⟩) HG.out] at c5
   rw[← BO.out.cell (p:=⟨g,_,none⟩) HG.out] at c6
   rw[← BO.out.cell (p:=⟨g,_,none⟩) HG.out] at c7
   rw[← BO.out.cell (p:=⟨g,_,none⟩) HG.out] at c8
   rw[← BO.out.cell (p:=⟨g,_,none⟩) HG.out] at c9
   rw[← BO.out.cell (p:=⟨g,_,none⟩) HG.out] at c10
   have c:=legI1 y wr (HX.out y hm).1 (HX.out y hm).2.1 (HX.out y hm).2.2 (HST.out.on BO.out) e0 e1 e2 (HER.out.on BO.out)
   unfold vLgx at c
   clear hy hg hm
   cases hb:lgB y<;>rw[hb] at c
   ·go_wp2_with fail
    refine c.mono ?_
    rintro e w1 ⟨rfl,hb1⟩
    have B1:=Hid.mkQ (BO.out.trans (hb1.mono BO.out.size))
    clear hb1
    go_wp2_with fail
    go_ret
    exact ⟨⟨_,rfl,.inr ⟨by omega,k,hkl,by rw[← HY.out];exact hb⟩⟩,B1.out⟩
   ·go_wp2_with fail
    refine c.mono ?_
    rintro e w1 ⟨rfl,hb1⟩
    have B1:=Hid.mkQ (BO.out.trans (hb1.mono BO.out.size))
    have HN:Hid (∀ j,j<k+1→lgB (l.getD j default)=true):=fun j hj=>by
     by_cases e:j=k
     ·subst e;rw[← HY.out];exact hb
     ·exact hall.out j (by omega)
    clear c hb hb1 c0 c1 c2 c3 c4 c5 c6 c7 c8 c9 c10
    go_wp2_with fail
    go_roundw
    case rel=>exact ⟨k+1,by omega,by go_num,HN,B1.out⟩
    case measure=>simp[intOf];omega
  ·obtain rfl:k=n:=by omega
   go_wp2_with fail
   go_ret
   exact ⟨⟨_,rfl,.inl ⟨rfl,hall.out⟩⟩,BO.out⟩
theorem implLegsOk (l:List Lgx) (A:Option Addr) (cap:Nat) (w:World) (B:Nat) (hu:LegsAt w B A l) (hB:B≤w.heap.size) (hn:l.length≤1048576) (hx:∀ y∈l,y.key.size≤maxLen∧y.data.size≤1048576∧y.told.size≤maxLen) (hst:SumTab w) (e0 e1 e2:Addr) (he:Errs w e0 e1 e2) :
  Calls Tryz.prog 86 #[.slice A l.length cap] w fun e w'=>Told (∀ j,j<l.length→lgB (l.getD j default)=true) e∧Below w.heap.size w w':=by
 have c1:=idxL l A cap w B hu hB hn hx hst e0 e1 e2 he
 clear hu hB hx hst he
 have c2:Calls Tryz.prog 124 #[.slice A l.length cap,.func (.func 125) #[] #[]] w fun e w'=>Told (∃ j,j<l.length∧lgB (l.getD j default)=false) e∧Below w.heap.size w w':=by
  generalize HP:Told (∃ j,j<l.length∧lgB (l.getD j default)=false)=P at *
  go_enter Tryz.func124,Tryz.ntmps124
  go_wp2_with fail
  refine c1.mono ?_
  rintro e w1 ⟨⟨i,rfl,hi⟩,hb1⟩
  have B1:=Hid.mkQ hb1
  clear hb1
  rcases hi.out with ⟨rfl,ha⟩ | ⟨h0,hb⟩
  ·have HA:=Hid.mkQ ha
   clear ha hi
   go_wp2_with fail
   go_ret
   subst HP
   exact ⟨Told.no (fun ⟨j,hj,hb⟩=>by have:=HA.out j hj;rw[hb] at this;cases this),B1.out⟩
  ·have HB:=Hid.mkQ hb
   have q0:decide (0≤i)=true:=decide_eq_true h0
   clear hb hi
   go_wp2_with fail
   go_ret
   subst HP
   exact ⟨Told.yes HB.out,B1.out⟩
 clear c1
 generalize HP:Told (∀ j,j<l.length→lgB (l.getD j default)=true)=P at *
 go_enter Tryz.func86,Tryz.ntmps86
 go_wp2_with fail
 refine c2.mono ?_
 rintro e w1 ⟨hb,hb1⟩
 have B1:=Hid.mkQ hb1
 clear hb1
 rcases hb.arms with ⟨rfl,hq⟩ | ⟨rfl,hq⟩
 ·go_wp2_with fail
  go_ret
  subst HP
  exact ⟨Told.no (fun h=>by obtain ⟨j,hj,hf⟩:=hq;have:=h j hj;rw[hf] at this;cases this),B1.out⟩
 ·go_wp2_with fail
  go_ret
  subst HP
  exact ⟨Told.yes (fun j hj=>by cases hf:lgB (l.getD j default);exact absurd (show ∃ j,j<l.length∧lgB (l.getD j default)=false from ⟨j,hj,hf⟩) hq;rfl),B1.out⟩
end Go.Proofs.YtedmdilabbolaaaGreatDoor
namespace Go.Proofs.YtedmdilabbolaaaGreatDoor
open Go.ChangeShapes Go.WideShapes Go.ChangeAt Go.RowKit Go.PlainAid
set_option linter.unusedVariables false
set_option maxHeartbeats 1000000 in
theorem implCallOk_1 (ky:ByteArray) (f t:Int) (d:ByteArray) (w:World) (hk:ky.size≤maxLen) (hd:d.size≤1048576) (hst:SumTab w) (a0 a1 a2:Addr) (he:Errs w a0 a1 a2):Calls Tryz.prog 62 #[vOp ⟨1,ky,f,t,d⟩] w fun e w'=>e=.returned (.bool (callOk ⟨1,ky,f,t,d⟩))∧Below w.heap.size w w':=by
 have HE:Hid (callOk ⟨1,ky,f,t,d⟩=opOk ⟨4,ky,f,t,d⟩):=rfl
 obtain ⟨X,hX⟩:∃ X,X=(w.alloc (.cells #[.int .i64 1,.string ky,.int .i64 f,.int .i64 t,.string d] 31)):=⟨_,rfl⟩
 have HB:Hid (Below w.heap.size w X):=by unfold Hid;rw[hX];exact (Below.refl _ w).alloc (Nat.le_refl _) _
 have c1:=implOpOk ⟨4,ky,f,t,d⟩ X hk hd (hst.on HB.out) a0 a1 a2 (he.on HB.out)
 unfold vOp at c1 ⊢
 clear hst he
 go_enter Tryz.func62,Tryz.ntmps62
 go_wp2_with fail
 rw[← hX]
 clear hX
 refine c1.mono ?_
 rintro e w1 ⟨rfl,hb⟩
 have B1:Hid (Below w.heap.size w w1):=HB.out.trans (hb.mono HB.out.size)
 clear hb c1
 generalize opOk ⟨4,ky,f,t,d⟩=bb at *
 go_wp2_with fail
 go_ret
 exact ⟨by rw[HE.out];rfl,B1.out⟩
set_option maxHeartbeats 1000000 in
theorem implCallOk_2 (ky:ByteArray) (f t:Int) (d:ByteArray) (w:World) (hk:ky.size≤maxLen) (hd:d.size≤1048576) (hst:SumTab w) (a0 a1 a2:Addr) (he:Errs w a0 a1 a2):Calls Tryz.prog 62 #[vOp ⟨2,ky,f,t,d⟩] w fun e w'=>e=.returned (.bool (callOk ⟨2,ky,f,t,d⟩))∧Below w.heap.size w w':=by
 have HE:Hid (callOk ⟨2,ky,f,t,d⟩=opOk ⟨5,ky,f,t,d⟩):=rfl
 obtain ⟨X,hX⟩:∃ X,X=(w.alloc (.cells #[.int .i64 2,.string ky,.int .i64 f,.int .i64 t,.string d] 31)):=⟨_,rfl⟩
 have HB:Hid (Below w.heap.size w X):=by unfold Hid;rw[hX];exact (Below.refl _ w).alloc (Nat.le_refl _) _
 have c1:=implOpOk ⟨5,ky,f,t,d⟩ X hk hd (hst.on HB.out) a0 a1 a2 (he.on HB.out)
 unfold vOp at c1 ⊢
 clear hst he
 go_enter Tryz.func62,Tryz.ntmps62
 go_wp2_with fail
 rw[← hX]
 clear hX
 refine c1.mono ?_
 rintro e w1 ⟨rfl,hb⟩
 have B1:Hid (Below w.heap.size w w1):=HB.out.trans (hb.mono HB.out.size)
 clear hb c1
 generalize opOk ⟨5,ky,f,t,d⟩=bb at *
 go_wp2_with fail
 go_ret
 exact ⟨by rw[HE.out];rfl,B1.out⟩
set_option maxHeartbeats 1000000 in
theorem implCallOk_3 (ky:ByteArray) (f t:Int) (d:ByteArray) (w:World) (hk:ky.size≤maxLen) (hd:d.size≤1048576) (hst:SumTab w) (a0 a1 a2:Addr) (he:Errs w a0 a1 a2):Calls Tryz.prog 62 #[vOp ⟨3,ky,f,t,d⟩] w fun e w'=>e=.returned (.bool (callOk ⟨3,ky,f,t,d⟩))∧Below w.heap.size w w':=by
 have HE:Hid (callOk ⟨3,ky,f,t,d⟩=opOk ⟨2,ky,f,t,d⟩):=rfl
 obtain ⟨X,hX⟩:∃ X,X=(w.alloc (.cells #[.int .i64 3,.string ky,.int .i64 f,.int .i64 t,.string d] 31)):=⟨_,rfl⟩
 have HB:Hid (Below w.heap.size w X):=by unfold Hid;rw[hX];exact (Below.refl _ w).alloc (Nat.le_refl _) _
 have c1:=implOpOk ⟨2,ky,f,t,d⟩ X hk hd (hst.on HB.out) a0 a1 a2 (he.on HB.out)
 unfold vOp at c1 ⊢
 clear hst he
 go_enter Tryz.func62,Tryz.ntmps62
 go_wp2_with fail
 rw[← hX]
 clear hX
 refine c1.mono ?_
 rintro e w1 ⟨rfl,hb⟩
 have B1:Hid (Below w.heap.size w w1):=HB.out.trans (hb.mono HB.out.size)
 clear hb c1
 generalize opOk ⟨2,ky,f,t,d⟩=bb at *
 go_wp2_with fail
 go_ret
 exact ⟨by rw[HE.out];rfl,B1.out⟩
set_option maxHeartbeats 1000000 in
theorem implCallOk_4 (ky:ByteArray) (f t:Int) (d:ByteArray) (w:World) (hk:ky.size≤maxLen) (hd:d.size≤1048576) (hst:SumTab w) (a0 a1 a2:Addr) (he:Errs w a0 a1 a2):Calls Tryz.prog 62 #[vOp ⟨4,ky,f,t,d⟩] w fun e w'=>e=.returned (.bool (callOk ⟨4,ky,f,t,d⟩))∧Below w.heap.size w w':=by
 have HE:Hid (callOk ⟨4,ky,f,t,d⟩=opOk ⟨3,ky,f,t,d⟩):=rfl
 obtain ⟨X,hX⟩:∃ X,X=(w.alloc (.cells #[.int .i64 4,.string ky,.int .i64 f,.int .i64 t,.string d] 31)):=⟨_,rfl⟩
 have HB:Hid (Below w.heap.size w X):=by unfold Hid;rw[hX];exact (Below.refl _ w).alloc (Nat.le_refl _) _
 have c1:=implOpOk ⟨3,ky,f,t,d⟩ X hk hd (hst.on HB.out) a0 a1 a2 (he.on HB.out)
 unfold vOp at c1 ⊢
 clear hst he
 go_enter Tryz.func62,Tryz.ntmps62
 go_wp2_with fail
 rw[← hX]
 clear hX
 refine c1.mono ?_
 rintro e w1 ⟨rfl,hb⟩
 have B1:Hid (Below w.heap.size w w1):=HB.out.trans (hb.mono HB.out.size)
 clear hb c1
 generalize opOk ⟨3,ky,f,t,d⟩=bb at *
 go_wp2_with fail
 go_ret
 exact ⟨by rw[HE.out];rfl,B1.out⟩
set_option maxHeartbeats 1000000 in
theorem implCallOk_no (k:Int) (ky:ByteArray) (f t:Int) (d:ByteArray) (w:World) (hk:ky.size≤maxLen) (hd:d.size≤1048576) (hst:SumTab w) (a0 a1 a2:Addr) (he:Errs w a0 a1 a2) (h1:¬ k=1) (h2:¬ k=2) (h3:¬ k=3) (h4:¬ k=4):Calls Tryz.prog 62 #[vOp ⟨k,ky,f,t,d⟩] w fun e w'=>e=.returned (.bool (callOk ⟨k,ky,f,t,d⟩))∧Below w.heap.size w w':=by
 have HE:Hid (callOk ⟨k,ky,f,t,d⟩=opOk ⟨0,ky,f,t,d⟩):=by unfold Hid;show opOk ⟨mapK k,ky,f,t,d⟩=_;rw[mapK_facts h1 h2 h3 h4]
 obtain ⟨X,hX⟩:∃ X,X=(w.alloc (.cells #[.int .i64 k,.string ky,.int .i64 f,.int .i64 t,.string d] 31)):=⟨_,rfl⟩
 have HB:Hid (Below w.heap.size w X):=by unfold Hid;rw[hX];exact (Below.refl _ w).alloc (Nat.le_refl _) _
 have c1:=implOpOk ⟨0,ky,f,t,d⟩ X hk hd (hst.on HB.out) a0 a1 a2 (he.on HB.out)
 unfold vOp at c1 ⊢
 clear hst he
 go_enter Tryz.func62,Tryz.ntmps62
 go_wp2_with fail
 rw[← hX]
 clear hX
 refine c1.mono ?_
 rintro e w1 ⟨rfl,hb⟩
 have B1:Hid (Below w.heap.size w w1):=HB.out.trans (hb.mono HB.out.size)
 clear hb c1
 generalize opOk ⟨0,ky,f,t,d⟩=bb at *
 go_wp2_with fail
 go_ret
 exact ⟨by rw[HE.out];rfl,B1.out⟩
theorem implCallOk (x:Opx) (w:World) (hk:x.key.size≤maxLen) (hd:x.data.size≤1048576) (hst:SumTab w) (a0 a1 a2:Addr) (he:Errs w a0 a1 a2):Calls Tryz.prog 62 #[vOp x] w fun e w'=>e=.returned (.bool (callOk x))∧Below w.heap.size w w':=by
 obtain ⟨k,ky,f,t,d⟩:=x
 by_cases h1:k=1
 ·subst h1;exact implCallOk_1 ky f t d w hk hd hst a0 a1 a2 he
 by_cases h2:k=2
 ·subst h2;exact implCallOk_2 ky f t d w hk hd hst a0 a1 a2 he
 by_cases h3:k=3
 ·subst h3;exact implCallOk_3 ky f t d w hk hd hst a0 a1 a2 he
 by_cases h4:k=4
 ·subst h4;exact implCallOk_4 ky f t d w hk hd hst a0 a1 a2 he
 exact implCallOk_no k ky f t d w hk hd hst a0 a1 a2 he h1 h2 h3 h4
end Go.Proofs.YtedmdilabbolaaaGreatDoor
namespace Go.Proofs.YtedmdilabbolaaaGreatDoor
open Go.ChangeShapes Go.WideShapes Go.ChangeAt Go.RowKit Go.PlainAid
set_option linter.unusedVariables false
theorem inRgI_yes {a b c:Int} (h1:b≤a) (h2:a≤c):inRg a b c=true:=by unfold inRg;rw[decide_eq_true h1,decide_eq_true h2];rfl
theorem inRgI_is {a b c:Int} (h:inRg a b c=true):b≤a∧a≤c:=by
 unfold inRg at h
 simpa using h
theorem nzI_yes {n:Nat} (h:n=0):((n:Int) == 0)=true:=by subst h;rfl
theorem nzI_no {n:Nat} (h:¬ n=0):((n:Int) == 0)=false:=by simpa using h
theorem emI_none:emB ⟨#[]⟩=true:=by unfold emB;rw[Lib.toList_data];rfl
theorem getD_lt0I {l:List Int} {k:Nat} (h:k<l.length):l.getD k 0=l[k]:=by
 rw[List.getD_eq_getElem?_getD,List.getElem?_eq_getElem h];rfl
theorem tdoI_mem {l:List Tdo} {k:Nat} (h:k<l.length):l.getD k default∈l:=by
 rw[List.getD_eq_getElem?_getD,List.getElem?_eq_getElem h]
 exact List.getElem_mem h
theorem tdoI_get {l:List Tdo} {k:Nat} (h:k<l.length):l.getD k default=l[k]:=by
 rw[List.getD_eq_getElem?_getD,List.getElem?_eq_getElem h];rfl
theorem lgxI_get {l:List Lgx} {k:Nat} (h:k<l.length):l.getD k default=l[k]:=by
 rw[List.getD_eq_getElem?_getD,List.getElem?_eq_getElem h];rfl
theorem busy_first {x:Rtr} (h:BusyOk x) (l0:x.legs.length=0) {k:Nat} (hk:k<x.todo.length):(x.todo.getD k default).group=0:=by
 have h1:=h.first (List.eq_nil_of_length_eq_zero l0)
 have hk0:k=0:=by have:=h1.1;omega
 subst hk0
 exact h1.2
theorem legs_all {l:List Lgx}:(∀ j,j<l.length→lgB (l.getD j default)=true)↔∀ y∈l,LgOk y:=by
 constructor
 ·intro h y hy
  obtain ⟨j,hj,rfl⟩:=List.mem_iff_getElem.1 hy
  have:=h j hj
  rw[lgxI_get hj] at this
  exact lgB_iff.1 this
 ·intro h j hj
  rw[lgxI_get hj]
  exact lgB_iff.2 (h _ (List.getElem_mem hj))
set_option maxRecDepth 20000 in
set_option maxHeartbeats 8000000 in
theorem workI (x:Rtr) (v:Value) (w:World) (B:Nat) (hv:RtrV w B v x) (hs3:x.sers.length=3) (hB:B≤w.heap.size) (hk:x.call.key.size≤maxLen) (hd:x.call.data.size≤1048576) (hn:x.sers.length≤1048576) (hl:x.legs.length≤1048576) (ht:x.todo.length≤1048576) (hlx:∀ y∈x.legs,y.key.size≤maxLen∧y.data.size≤1048576∧y.told.size≤maxLen) (htx:∀ y∈x.todo,y.key.size≤maxLen∧y.data.size≤1048576) (hst:SumTab w) (e0 e1 e2:Addr) (he:Errs w e0 e1 e2) :
  Calls Tryz.prog 40 #[v] w fun e w'=>Told (BusyOk x) e∧Below w.heap.size w w':=by
 obtain ⟨us,ul,ut,rfl,h1,h2,h3⟩:=hv
 obtain ⟨U,cu,rfl,hcu,-,hu⟩:=h1
 obtain ⟨L,cl,rfl,hl1⟩:=lgx_look h2
 obtain ⟨T,ct,rfl,ht1⟩:=tdo_look h3
 have HU:=Hid.mkQ hu
 have HLG:Hid (LegsAt w B L x.legs):=hl1
 have HTD:=Hid.mkQ ht1
 have HLX:=Hid.mkQ hlx
 have HTX:=Hid.mkQ htx
 have HBB:=Hid.mkQ hB
 have HCK:=Hid.mkQ hk
 have HCD:=Hid.mkQ hd
 have HST:=Hid.mkQ hst
 have HER:=Hid.mkQ he
 have HLN:=Hid.mkQ hl
 have qs:(x.sers.length:Int)≤1048576:=by omega
 have ql:(x.legs.length:Int)≤1048576:=by omega
 have qt:(x.todo.length:Int)≤1048576:=by omega
 unfold vRtr
 obtain ⟨X,hX⟩:∃ X,X=w.alloc (.cells #[.int .i64 x.id,.slice U x.sers.length cu,.bool x.busy,.int .i64 x.call.kind,.string x.call.key,.int .i64 x.call.frm,.int .i64 x.call.til,.string x.call.data,.int .i64 x.begun,.slice L x.legs.length cl,.slice T x.todo.length ct] 35):=⟨_,rfl⟩
 have BX:Hid (Below w.heap.size w X):=by unfold Hid;rw[hX];exact below_a1 _ _
 have KX:Hid (Blk X w.heap.size #[.int .i64 x.id,.slice U x.sers.length cu,.bool x.busy,.int .i64 x.call.kind,.string x.call.key,.int .i64 x.call.frm,.int .i64 x.call.til,.string x.call.data,.int .i64 x.begun,.slice L x.legs.length cl,.slice T x.todo.length ct] 35):=by unfold Hid;rw[hX];exact Blk.new w _ _
 have HS3:=Hid.mkQ hs3
 clear hu hl1 ht1 hlx htx hB h2 h3 hcu hk hd hn hl ht hst he hs3
 obtain ⟨k0,k1,k2,k3,k4,k5,k6,k7,k8,k9,k10⟩:X.cell? ⟨w.heap.size,0,none⟩=some (.int .i64 x.id)∧X.cell? ⟨w.heap.size,1,none⟩=some (.slice U x.sers.length cu)∧X.cell? ⟨w.heap.size,2,none⟩=some (.bool x.busy)∧X.cell? ⟨w.heap.size,3,none⟩=some (.int .i64 x.call.kind)∧X.cell? ⟨w.heap.size,4,none⟩=some (.string x.call.key)∧X.cell? ⟨w.heap.size,5,none⟩=some (.int .i64 x.call.frm)∧X.cell? ⟨w.heap.size,6,none⟩=some (.int .i64 x.call.til)∧X.cell? ⟨w.heap.size,7,none⟩=some (.string x.call.data)∧X.cell? ⟨w.heap.size,8,none⟩=some (.int .i64 x.begun)∧X.cell? ⟨w.heap.size,9,none⟩=some (.slice L x.legs.length cl)∧X.cell? ⟨w.heap.size,10,none⟩=some (.slice T x.todo.length ct):=⟨KX.out.cell 0 _ rfl,KX.out.cell 1 _ rfl,KX.out.cell 2 _ rfl,KX.out.cell 3 _ rfl,KX.out.cell 4 _ rfl,KX.out.cell 5 _ rfl,KX.out.cell 6 _ rfl,KX.out.cell 7 _ rfl,KX.out.cell 8 _ rfl,KX.out.cell 9 _ rfl,KX.out.cell 10 _ rfl⟩
 rw[hX] at k0 k1 k2 k3 k4 k5 k6 k7 k8 k9 k10
 have c1:=implCallOk x.call X HCK.out HCD.out (HST.out.on BX.out) e0 e1 e2 (HER.out.on BX.out)
 unfold vOp at c1
 go_enter Tryz.func40,Tryz.ntmps40
 go_wp2_with fail
 rw[← hX]
 rw[← hX] at k0 k1 k2 k3 k4 k5 k6 k7 k8 k9 k10
 clear hX
 cases hcb:callOk x.call<;>rw[hcb] at c1
 ·refine c1.mono ?_
  rintro e w1 ⟨rfl,hb⟩
  have B1:Hid (Below w.heap.size w w1):=BX.out.trans (hb.mono BX.out.size)
  clear hb c1
  go_wp2_with fail
  go_ret
  exact ⟨Told.no (fun h=>by have:=h.c;rw[hcb] at this;cases this),B1.out⟩
 have HC:=Hid.mkQ hcb
 refine c1.mono ?_
 rintro e w1 ⟨rfl,hb⟩
 have B1:Hid (Below w.heap.size w w1):=BX.out.trans (hb.mono BX.out.size)
 have K1:=Hid.mkQ (KX.out.on hb KX.out.lt)
 clear hb c1 k0 k1 k2 k3 k4 k5 k6 k7 k8 k9 k10 hcb
 obtain ⟨m0,m1,m2,m3,m4,m5,m6,m7,m8,m9,m10⟩:w1.cell? ⟨w.heap.size,0,none⟩=some (.int .i64 x.id)∧w1.cell? ⟨w.heap.size,1,none⟩=some (.slice U x.sers.length cu)∧w1.cell? ⟨w.heap.size,2,none⟩=some (.bool x.busy)∧w1.cell? ⟨w.heap.size,3,none⟩=some (.int .i64 x.call.kind)∧w1.cell? ⟨w.heap.size,4,none⟩=some (.string x.call.key)∧w1.cell? ⟨w.heap.size,5,none⟩=some (.int .i64 x.call.frm)∧w1.cell? ⟨w.heap.size,6,none⟩=some (.int .i64 x.call.til)∧w1.cell? ⟨w.heap.size,7,none⟩=some (.string x.call.data)∧w1.cell? ⟨w.heap.size,8,none⟩=some (.int .i64 x.begun)∧w1.cell? ⟨w.heap.size,9,none⟩=some (.slice L x.legs.length cl)∧w1.cell? ⟨w.heap.size,10,none⟩=some (.slice T x.todo.length ct):=⟨K1.out.cell 0 _ rfl,K1.out.cell 1 _ rfl,K1.out.cell 2 _ rfl,K1.out.cell 3 _ rfl,K1.out.cell 4 _ rfl,K1.out.cell 5 _ rfl,K1.out.cell 6 _ rfl,K1.out.cell 7 _ rfl,K1.out.cell 8 _ rfl,K1.out.cell 9 _ rfl,K1.out.cell 10 _ rfl⟩
 by_cases t0:x.todo.length=0
 ·have m11:=nzI_yes t0
  go_wp2_with fail
  go_ret
  exact ⟨Told.no (fun h=>by have:=h.one;omega),B1.out⟩
 have m11:=nzI_no t0
 by_cases t3:3<x.todo.length+x.legs.length
 ·have q3:(3:Int)<(x.todo.length:Int)+(x.legs.length:Int):=by omega
  go_wp2_with fail
  go_ret
  exact ⟨Told.no (fun h=>by have:=h.few;omega),B1.out⟩
 have q3:(x.todo.length:Int)+(x.legs.length:Int)≤3:=by omega
 have q4:(0:Int)<(x.todo.length:Int):=by omega
 by_cases l0:x.legs.length=0
 ·have m12:=nzI_yes l0
  have L0:=Hid.mkQ l0
  clear l0
  by_cases t1:1<x.todo.length
  ·have q5:(1:Int)<(x.todo.length:Int):=by omega
   go_wp2_with fail
   go_ret
   exact ⟨Told.no (fun h=>by have:=(h.first (List.eq_nil_of_length_eq_zero L0.out)).1;omega),B1.out⟩
  ·have q5:(x.todo.length:Int)≤1:=by omega
   go_wp2_with fail
   clear m0 m1 m2 m3 m4 m5 m6 m7 m8 m9 m10 m11 q3
   go_loopw [38] (fun i wr=>∃ k:Nat,k≤x.todo.length∧i=.int .i64 (k:Int)∧Hid (∀ j,j<k→inRg (x.todo.getD j default).group 0 0=true∧opOk (x.todo.getD j default).op=true)∧Below w1.heap.size w1 wr) (fun i _=>x.todo.length - (intOf i).toNat)
   case atStart=>exact ⟨0,Nat.zero_le _,rfl,fun j hj=>absurd hj (Nat.not_lt_zero _),Below.refl _ _⟩
   case round =>
    rename World=>wo
    obtain ⟨k,hk,rfl,hall,hq⟩:=hrel
    have HW:=Hid.mkQ hq
    have BO:Hid (Below w.heap.size w wo):=B1.out.trans (HW.out.mono B1.out.size)
    clear hq
    obtain ⟨m0,m1,m2,m3,m4,m5,m6,m7,m8,m9,m10⟩:wo.cell? ⟨w.heap.size,0,none⟩=some (.int .i64 x.id)∧wo.cell? ⟨w.heap.size,1,none⟩=some (.slice U x.sers.length cu)∧wo.cell? ⟨w.heap.size,2,none⟩=some (.bool x.busy)∧wo.cell? ⟨w.heap.size,3,none⟩=some (.int .i64 x.call.kind)∧wo.cell? ⟨w.heap.size,4,none⟩=some (.string x.call.key)∧wo.cell? ⟨w.heap.size,5,none⟩=some (.int .i64 x.call.frm)∧wo.cell? ⟨w.heap.size,6,none⟩=some (.int .i64 x.call.til)∧wo.cell? ⟨w.heap.size,7,none⟩=some (.string x.call.data)∧wo.cell? ⟨w.heap.size,8,none⟩=some (.int .i64 x.begun)∧wo.cell? ⟨w.heap.size,9,none⟩=some (.slice L x.legs.length cl)∧wo.cell? ⟨w.heap.size,10,none⟩=some (.slice T x.todo.length ct):=⟨(Hid.mkQ (K1.out.on HW.out K1.out.lt)).out.cell 0 _ rfl,(Hid.mkQ (K1.out.on HW.out K1.out.lt)).out.cell 1 _ rfl,(Hid.mkQ (K1.out.on HW.out K1.out.lt)).out.cell 2 _ rfl,(Hid.mkQ (K1.out.on HW.out K1.out.lt)).out.cell 3 _ rfl,(Hid.mkQ (K1.out.on HW.out K1.out.lt)).out.cell 4 _ rfl,(Hid.mkQ (K1.out.on HW.out K1.out.lt)).out.cell 5 _ rfl,(Hid.mkQ (K1.out.on HW.out K1.out.lt)).out.cell 6 _ rfl,(Hid.mkQ (K1.out.on HW.out K1.out.lt)).out.cell 7 _ rfl,(Hid.mkQ (K1.out.on HW.out K1.out.lt)).out.cell 8 _ rfl,(Hid.mkQ (K1.out.on HW.out K1.out.lt)).out.cell 9 _ rfl,(Hid.mkQ (K1.out.on HW.out K1.out.lt)).out.cell 10 _ rfl⟩
    by_cases hkl:k<x.todo.length
    ·have qk:(k:Int)<(x.todo.length:Int):=by omega
     obtain ⟨g,off,rfl,hg2,c0,c1,c2,c3,c4,c5⟩:=HTD.out k hkl
     have hm:=tdoI_mem hkl
     obtain ⟨y,hy⟩:∃ y,y=x.todo.getD k default:=⟨_,rfl⟩
     rw[← hy] at c0 c1 c2 c3 c4 c5 hm
     have HYM:=Hid.mkQ hm
     have HYK:=Hid.mkQ hy
     have HGB:Hid (g<w.heap.size):=Nat.lt_of_lt_of_le hg2 HBB.out
     rw[← BO.out.cell (p:=⟨g,_,none⟩) HGB.out] at c0
     rw[← BO.out.cell (p:=⟨g,_,none⟩) HGB.out] at c1
     rw[← BO.out.cell (p:=⟨g,_,none⟩) HGB.out] at c2
     rw[← BO.out.cell (p:=⟨g,_,none⟩) HGB.out] at c3
     rw[← BO.out.cell (p:=⟨g,_,none⟩) HGB.out] at c4
     rw[← BO.out.cell (p:=⟨g,_,none⟩) HGB.out] at c5
     clear hg2 hm hy
     obtain ⟨Xo,hXo⟩:∃ Xo,Xo=wo.alloc (.cells #[.int .i64 y.group,.int .i64 y.kind,.string y.key,.int .i64 y.frm,.int .i64 y.til,.string y.data] 67):=⟨_,rfl⟩
     have hbx:Below wo.heap.size wo Xo:=by rw[hXo];exact below_a1 _ _
     have BXo:=Hid.mkQ (BO.out.trans (hbx.mono BO.out.size))
     have HWX:=Hid.mkQ (HW.out.trans (hbx.mono HW.out.size))
     have KY:Hid (Blk Xo wo.heap.size #[.int .i64 y.group,.int .i64 y.kind,.string y.key,.int .i64 y.frm,.int .i64 y.til,.string y.data] 67):=by unfold Hid;rw[hXo];exact Blk.new wo _ _
     have y0:=KY.out.cell 0 _ rfl
     have y1:=KY.out.cell 1 _ rfl
     have y2:=KY.out.cell 2 _ rfl
     have y3:=KY.out.cell 3 _ rfl
     have y4:=KY.out.cell 4 _ rfl
     have y5:=KY.out.cell 5 _ rfl
     rw[hXo] at y0 y1 y2 y3 y4 y5
     have a1:=fun wx=>inI y.group 0 0 wx
     have a3:=implOpOk y.op Xo (HTX.out y HYM.out).1 (HTX.out y HYM.out).2 (HST.out.on BXo.out) e0 e1 e2 (HER.out.on BXo.out)
     simp only[vOp,Tdo.op] at a3
     clear hbx
     go_wp2_with fail
     rw[← hXo]
     rw[← hXo] at y0 y1 y2 y3 y4 y5
     clear hXo
     cases hgr:inRg y.group 0 0<;>rw[hgr] at a1
     ·clear a3
      refine (a1 _).mono ?_
      rintro e w' ⟨rfl,rfl⟩
      go_wp2_with fail
      go_ret
      exact ⟨Told.no (fun h=>by have h2:=busy_first h L0.out hkl;rw[← HYK.out] at h2;rw[h2] at hgr;exact absurd hgr (by decide)),BXo.out⟩
     ·refine (a1 _).mono ?_
      rintro e w' ⟨rfl,rfl⟩
      go_wp2_with fail
      cases hop:opOk ⟨y.kind,y.key,y.frm,y.til,y.data⟩<;>rw[hop] at a3
      ·refine a3.mono ?_
       rintro e w3 ⟨rfl,hb⟩
       have B3:Hid (Below w.heap.size w w3):=BXo.out.trans (hb.mono BXo.out.size)
       clear hb a3
       go_wp2_with fail
       go_ret
       exact ⟨Told.no (fun h=>by have:=(h.td y HYM.out).2.2;unfold Tdo.op at this;rw[hop] at this;cases this),B3.out⟩
      ·refine a3.mono ?_
       rintro e w3 ⟨rfl,hb⟩
       have W3:=Hid.mkQ (HWX.out.trans (hb.mono HWX.out.size))
       have HN:Hid (∀ j,j<k+1→inRg (x.todo.getD j default).group 0 0=true∧opOk (x.todo.getD j default).op=true):=fun j hj=>by
        by_cases ej:j=k
        ·subst ej;rw[← HYK.out];exact ⟨hgr,hop⟩
        ·exact hall.out j (by omega)
       clear hb a3 a1 m0 m1 m2 m3 m4 m5 m6 m7 m8 m9 m10 c0 c1 c2 c3 c4 c5 y0 y1 y2 y3 y4 y5
       go_wp2_with fail
       go_roundw
       case rel=>exact ⟨k+1,by omega,by go_num,HN,W3.out⟩
       case measure=>simp[intOf];omega
    ·obtain rfl:k=x.todo.length:=by omega
     have HTG:Hid (∀ j,j<x.todo.length→inRg (x.todo.getD j default).group 0 0=true∧opOk (x.todo.getD j default).op=true):=hall
     clear hall
     obtain ⟨g,off,rfl,hg2,c0,-,-,-,-,-⟩:=HTD.out 0 (by omega)
     rw[Nat.zero_mul,Nat.add_zero] at c0
     have ht0:=HTG.out 0 (by omega)
     have hrange:=inRgI_is ht0.1
     obtain ⟨y0,hy0⟩:∃ y0,y0=x.todo.getD 0 default:=⟨_,rfl⟩
     rw[← hy0] at c0 ht0 hrange
     have HY0:=Hid.mkQ hy0
     obtain ⟨gn,hgn⟩:∃ gn:Nat,y0.group=(gn:Int):=⟨y0.group.toNat,by omega⟩
     have hgl:gn<x.sers.length:=by have:=HS3.out;omega
     obtain ⟨gu,ou,rfl,hgu,hcu⟩:=HU.out gn hgl
     obtain ⟨sv,hsv⟩:∃ sv,sv=x.sers.getD gn 0:=⟨_,rfl⟩
     rw[← hsv] at hcu
     rw[hgn] at c0
     have HSV:Hid (sv=x.sers.getD (x.todo.getD 0 default).group.toNat 0):=by unfold Hid;rw[← HY0.out,hgn];exact hsv
     have q7:(gn:Int)<(x.sers.length:Int):=by omega
     have q8:(0:Int)<(x.todo.length:Int):=by omega
     have q8n:0<x.todo.length:=by omega
     have SF:Hid (∀ W,Below w.heap.size w W→Blk W w.heap.size #[.int .i64 x.id,.slice (some ⟨gu,ou,none⟩) x.sers.length cu,.bool x.busy,.int .i64 x.call.kind,.string x.call.key,.int .i64 x.call.frm,.int .i64 x.call.til,.string x.call.data,.int .i64 x.begun,.slice L x.legs.length cl,.slice (some ⟨g,off,none⟩) x.todo.length ct] 35→W.cell? ⟨w.heap.size,1,none⟩=some (.slice (some ⟨gu,ou,none⟩) x.sers.length cu)∧W.cell? ⟨w.heap.size,9,none⟩=some (.slice L x.legs.length cl)∧W.cell? ⟨w.heap.size,10,none⟩=some (.slice (some ⟨g,off,none⟩) x.todo.length ct)∧W.cell? ⟨g,off,none⟩=some (.int .i64 (gn:Int))∧W.cell? ⟨gu,ou+gn,none⟩=some (.int .i64 sv)):=fun W hb hk=>⟨hk.cell 1 _ rfl,hk.cell 9 _ rfl,hk.cell 10 _ rfl,(hb.cell (p:=⟨g,off,none⟩) (Nat.lt_of_lt_of_le hg2 HBB.out)).trans c0,(hb.cell (p:=⟨gu,ou+gn,none⟩) (Nat.lt_of_lt_of_le hgu HBB.out)).trans hcu⟩
     have KO:=Hid.mkQ (K1.out.on HW.out K1.out.lt)
     have BD:=Hid.mkQ BO.out.drew
     have KD:=Hid.mkQ (KO.out.on (Below.refl _ wo).drew KO.out.lt)
     have S0:=Hid.mkQ (SF.out _ BD.out KD.out)
     clear hy0 hsv hg2 hgu c0 hcu
     go_wp2_with fail
     clear m0 m1 m2 m3 m4 m5 m6 m7 m8 m9 m10
     by_cases hs1:1≤sv
     ·have q10:decide (1≤sv)=true:=decide_eq_true hs1
      have cL:=implLegsOk x.legs L cl wo.drew B (fun j hj=>by
       obtain ⟨g1,o1,e,hg,d0,d1,d2,d3,d4,d5,d6,d7,d8,d9,d10⟩:=HLG.out j hj
       have hgb:=Nat.lt_of_lt_of_le hg HBB.out
       exact ⟨g1,o1,e,hg,(BD.out.cell (p:=⟨g1,_,none⟩) hgb).trans d0,(BD.out.cell (p:=⟨g1,_,none⟩) hgb).trans d1,(BD.out.cell (p:=⟨g1,_,none⟩) hgb).trans d2,(BD.out.cell (p:=⟨g1,_,none⟩) hgb).trans d3,(BD.out.cell (p:=⟨g1,_,none⟩) hgb).trans d4,(BD.out.cell (p:=⟨g1,_,none⟩) hgb).trans d5,(BD.out.cell (p:=⟨g1,_,none⟩) hgb).trans d6,(BD.out.cell (p:=⟨g1,_,none⟩) hgb).trans d7,(BD.out.cell (p:=⟨g1,_,none⟩) hgb).trans d8,(BD.out.cell (p:=⟨g1,_,none⟩) hgb).trans d9,(BD.out.cell (p:=⟨g1,_,none⟩) hgb).trans d10⟩) (Nat.le_trans HBB.out BD.out.size) HLN.out HLX.out (HST.out.on BD.out) e0 e1 e2 (HER.out.on BD.out)
      refine wp_region_until (fun w'=>w'.cell? ⟨w.heap.size,1,none⟩=some (.slice (some ⟨gu,ou,none⟩) x.sers.length cu)∧w'.cell? ⟨w.heap.size,9,none⟩=some (.slice L x.legs.length cl)∧w'.cell? ⟨w.heap.size,10,none⟩=some (.slice (some ⟨g,off,none⟩) x.todo.length ct)∧w'.cell? ⟨g,off,none⟩=some (.int .i64 (gn:Int))∧w'.cell? ⟨gu,ou+gn,none⟩=some (.int .i64 sv)) (fun i=>false) 16 (by rfl) (by kernel_rfl) ?_
      refine pF 0 ?_
      refine tF 1 S0.out ?_
      refine pF 2 ?_
      refine tF 3 S0.out ?_
      refine pF 4 ?_
      refine pF 5 ?_
      refine tF 6 S0.out ?_
      refine pF 7 ?_
      refine tF 8 S0.out ?_
      refine pF 9 ?_
      refine pF 10 ?_
      refine pF 11 ?_
      refine tF 12 S0.out ?_
      refine uNe 13 (fun K hK=>?_)
      go_simp
      refine cL.mono ?_
      rintro e w5 ⟨hbl,hb⟩
      have B5:=Hid.mkQ (BD.out.trans (hb.mono BD.out.size))
      have S5:=Hid.mkQ (SF.out _ B5.out (KD.out.on hb KD.out.lt))
      clear hb cL
      rcases hbl.arms with ⟨rfl,hq⟩ | ⟨rfl,hq⟩
      ·go_wp2_with fail
       refine hK.out _ _ (fun _ _=>S5.out) ?_
       clear hK K
       try simp only[Act.put,zQ1,zQ2,zQ3]
       refine pF 14 ?_
       refine pF 15 ?_
       refine until_done (by kernel_rfl) ?_ _
       go_wp2_with fail
       go_ret
       have hla:=legs_all.1 hq
       exact ⟨Told.yes ⟨HC.out,by omega,by omega,(fun _=>⟨by omega,by rw[← HY0.out,hgn];omega⟩),fun y hy=>(by obtain ⟨j,hj,rfl⟩:=List.mem_iff_getElem.1 hy;have h2:=HTG.out j hj;rw[tdoI_get hj] at h2;have h3:=inRgI_is h2.1;exact ⟨⟨by omega,by omega⟩,fun hne=>absurd (List.eq_nil_of_length_eq_zero L0.out) hne,h2.2⟩),hla,by rw[← HSV.out];exact hs1⟩,B5.out⟩
      ·go_wp2_with fail
       refine hK.out _ _ (fun _ _=>S5.out) ?_
       clear hK K
       try simp only[Act.put,zQ1,zQ2,zQ3]
       refine pF 14 ?_
       refine pF 15 ?_
       refine until_done (by kernel_rfl) ?_ _
       go_wp2_with fail
       go_ret
       exact ⟨Told.no (fun h=>hq (legs_all.2 h.lg)),B5.out⟩
     ·have HS1:=Hid.mkQ hs1
      have q9:sv<1:=by omega
      have q10:decide (1≤sv)=false:=decide_eq_false (by omega)
      refine wp_region_until (fun w'=>w'.cell? ⟨w.heap.size,1,none⟩=some (.slice (some ⟨gu,ou,none⟩) x.sers.length cu)∧w'.cell? ⟨w.heap.size,9,none⟩=some (.slice L x.legs.length cl)∧w'.cell? ⟨w.heap.size,10,none⟩=some (.slice (some ⟨g,off,none⟩) x.todo.length ct)∧w'.cell? ⟨g,off,none⟩=some (.int .i64 (gn:Int))∧w'.cell? ⟨gu,ou+gn,none⟩=some (.int .i64 sv)) (fun i=>false) 16 (by rfl) (by kernel_rfl) ?_
      refine pF 0 ?_
      refine tF 1 S0.out ?_
      refine pF 2 ?_
      refine tF 3 S0.out ?_
      refine pF 4 ?_
      refine pF 5 ?_
      refine tF 6 S0.out ?_
      refine pF 7 ?_
      refine tF 8 S0.out ?_
      refine pF 9 ?_
      refine pF 10 ?_
      refine sF 11 ?_
      refine sF 12 ?_
      refine sF 13 ?_
      refine pF 14 ?_
      refine pF 15 ?_
      refine until_done (by kernel_rfl) ?_ _
      go_wp2_with fail
      go_ret
      exact ⟨Told.no (fun h=>absurd h.ser (by rw[← HSV.out];have:=HS1.out;omega)),BD.out⟩
 ·have m12:=nzI_no l0
  have L0:=Hid.mkQ l0
  clear l0
  go_wp2_with fail
  clear m0 m1 m2 m3 m4 m5 m6 m7 m8 m9 m10 m11 q3
  go_loopw [38] (fun i wr=>∃ k:Nat,k≤x.todo.length∧i=.int .i64 (k:Int)∧Hid (∀ j,j<k→inRg (x.todo.getD j default).group 1 2=true∧opOk (x.todo.getD j default).op=true)∧Below w1.heap.size w1 wr) (fun i _=>x.todo.length - (intOf i).toNat)
  case atStart=>exact ⟨0,Nat.zero_le _,rfl,fun j hj=>absurd hj (Nat.not_lt_zero _),Below.refl _ _⟩
  case round =>
   rename World=>wo
   obtain ⟨k,hk,rfl,hall,hq⟩:=hrel
   have HW:=Hid.mkQ hq
   have BO:Hid (Below w.heap.size w wo):=B1.out.trans (HW.out.mono B1.out.size)
   clear hq
   obtain ⟨m0,m1,m2,m3,m4,m5,m6,m7,m8,m9,m10⟩:wo.cell? ⟨w.heap.size,0,none⟩=some (.int .i64 x.id)∧wo.cell? ⟨w.heap.size,1,none⟩=some (.slice U x.sers.length cu)∧wo.cell? ⟨w.heap.size,2,none⟩=some (.bool x.busy)∧wo.cell? ⟨w.heap.size,3,none⟩=some (.int .i64 x.call.kind)∧wo.cell? ⟨w.heap.size,4,none⟩=some (.string x.call.key)∧wo.cell? ⟨w.heap.size,5,none⟩=some (.int .i64 x.call.frm)∧wo.cell? ⟨w.heap.size,6,none⟩=some (.int .i64 x.call.til)∧wo.cell? ⟨w.heap.size,7,none⟩=some (.string x.call.data)∧wo.cell? ⟨w.heap.size,8,none⟩=some (.int .i64 x.begun)∧wo.cell? ⟨w.heap.size,9,none⟩=some (.slice L x.legs.length cl)∧wo.cell? ⟨w.heap.size,10,none⟩=some (.slice T x.todo.length ct):=⟨(Hid.mkQ (K1.out.on HW.out K1.out.lt)).out.cell 0 _ rfl,(Hid.mkQ (K1.out.on HW.out K1.out.lt)).out.cell 1 _ rfl,(Hid.mkQ (K1.out.on HW.out K1.out.lt)).out.cell 2 _ rfl,(Hid.mkQ (K1.out.on HW.out K1.out.lt)).out.cell 3 _ rfl,(Hid.mkQ (K1.out.on HW.out K1.out.lt)).out.cell 4 _ rfl,(Hid.mkQ (K1.out.on HW.out K1.out.lt)).out.cell 5 _ rfl,(Hid.mkQ (K1.out.on HW.out K1.out.lt)).out.cell 6 _ rfl,(Hid.mkQ (K1.out.on HW.out K1.out.lt)).out.cell 7 _ rfl,(Hid.mkQ (K1.out.on HW.out K1.out.lt)).out.cell 8 _ rfl,(Hid.mkQ (K1.out.on HW.out K1.out.lt)).out.cell 9 _ rfl,(Hid.mkQ (K1.out.on HW.out K1.out.lt)).out.cell 10 _ rfl⟩
   by_cases hkl:k<x.todo.length
   ·have qk:(k:Int)<(x.todo.length:Int):=by omega
    obtain ⟨g,off,rfl,hg2,c0,c1,c2,c3,c4,c5⟩:=HTD.out k hkl
    have hm:=tdoI_mem hkl
    obtain ⟨y,hy⟩:∃ y,y=x.todo.getD k default:=⟨_,rfl⟩
    rw[← hy] at c0 c1 c2 c3 c4 c5 hm
    have HYM:=Hid.mkQ hm
    have HYK:=Hid.mkQ hy
    have HGB:Hid (g<w.heap.size):=Nat.lt_of_lt_of_le hg2 HBB.out
    rw[← BO.out.cell (p:=⟨g,_,none⟩) HGB.out] at c0
    rw[← BO.out.cell (p:=⟨g,_,none⟩) HGB.out] at c1
    rw[← BO.out.cell (p:=⟨g,_,none⟩) HGB.out] at c2
    rw[← BO.out.cell (p:=⟨g,_,none⟩) HGB.out] at c3
    rw[← BO.out.cell (p:=⟨g,_,none⟩) HGB.out] at c4
    rw[← BO.out.cell (p:=⟨g,_,none⟩) HGB.out] at c5
    clear hg2 hm hy
    obtain ⟨Xo,hXo⟩:∃ Xo,Xo=wo.alloc (.cells #[.int .i64 y.group,.int .i64 y.kind,.string y.key,.int .i64 y.frm,.int .i64 y.til,.string y.data] 67):=⟨_,rfl⟩
    have hbx:Below wo.heap.size wo Xo:=by rw[hXo];exact below_a1 _ _
    have BXo:=Hid.mkQ (BO.out.trans (hbx.mono BO.out.size))
    have HWX:=Hid.mkQ (HW.out.trans (hbx.mono HW.out.size))
    have KY:Hid (Blk Xo wo.heap.size #[.int .i64 y.group,.int .i64 y.kind,.string y.key,.int .i64 y.frm,.int .i64 y.til,.string y.data] 67):=by unfold Hid;rw[hXo];exact Blk.new wo _ _
    have y0:=KY.out.cell 0 _ rfl
    have y1:=KY.out.cell 1 _ rfl
    have y2:=KY.out.cell 2 _ rfl
    have y3:=KY.out.cell 3 _ rfl
    have y4:=KY.out.cell 4 _ rfl
    have y5:=KY.out.cell 5 _ rfl
    rw[hXo] at y0 y1 y2 y3 y4 y5
    have a1:=fun wx=>inI y.group 1 2 wx
    have a3:=implOpOk y.op Xo (HTX.out y HYM.out).1 (HTX.out y HYM.out).2 (HST.out.on BXo.out) e0 e1 e2 (HER.out.on BXo.out)
    simp only[vOp,Tdo.op] at a3
    clear hbx
    go_wp2_with fail
    rw[← hXo]
    rw[← hXo] at y0 y1 y2 y3 y4 y5
    clear hXo
    cases hgr:inRg y.group 1 2<;>rw[hgr] at a1
    ·clear a3
     refine (a1 _).mono ?_
     rintro e w' ⟨rfl,rfl⟩
     go_wp2_with fail
     go_ret
     exact ⟨Told.no (fun h=>by have h1:=h.td y HYM.out;have h2:=h1.2.1 (fun hl=>L0.out (by rw[hl];rfl));have:=inRgI_yes (a:=y.group) (b:=1) (c:=2) (by omega) (by omega);rw[hgr] at this;cases this),BXo.out⟩
    ·refine (a1 _).mono ?_
     rintro e w' ⟨rfl,rfl⟩
     go_wp2_with fail
     cases hop:opOk ⟨y.kind,y.key,y.frm,y.til,y.data⟩<;>rw[hop] at a3
     ·refine a3.mono ?_
      rintro e w3 ⟨rfl,hb⟩
      have B3:Hid (Below w.heap.size w w3):=BXo.out.trans (hb.mono BXo.out.size)
      clear hb a3
      go_wp2_with fail
      go_ret
      exact ⟨Told.no (fun h=>by have:=(h.td y HYM.out).2.2;unfold Tdo.op at this;rw[hop] at this;cases this),B3.out⟩
     ·refine a3.mono ?_
      rintro e w3 ⟨rfl,hb⟩
      have W3:=Hid.mkQ (HWX.out.trans (hb.mono HWX.out.size))
      have HN:Hid (∀ j,j<k+1→inRg (x.todo.getD j default).group 1 2=true∧opOk (x.todo.getD j default).op=true):=fun j hj=>by
       by_cases ej:j=k
       ·subst ej;rw[← HYK.out];exact ⟨hgr,hop⟩
       ·exact hall.out j (by omega)
      clear hb a3 a1 m0 m1 m2 m3 m4 m5 m6 m7 m8 m9 m10 c0 c1 c2 c3 c4 c5 y0 y1 y2 y3 y4 y5
      go_wp2_with fail
      go_roundw
      case rel=>exact ⟨k+1,by omega,by go_num,HN,W3.out⟩
      case measure=>simp[intOf];omega
   ·obtain rfl:k=x.todo.length:=by omega
    have HTG:Hid (∀ j,j<x.todo.length→inRg (x.todo.getD j default).group 1 2=true∧opOk (x.todo.getD j default).op=true):=hall
    clear hall
    obtain ⟨g,off,rfl,hg2,c0,-,-,-,-,-⟩:=HTD.out 0 (by omega)
    rw[Nat.zero_mul,Nat.add_zero] at c0
    have ht0:=HTG.out 0 (by omega)
    have hrange:=inRgI_is ht0.1
    obtain ⟨y0,hy0⟩:∃ y0,y0=x.todo.getD 0 default:=⟨_,rfl⟩
    rw[← hy0] at c0 ht0 hrange
    have HY0:=Hid.mkQ hy0
    obtain ⟨gn,hgn⟩:∃ gn:Nat,y0.group=(gn:Int):=⟨y0.group.toNat,by omega⟩
    have hgl:gn<x.sers.length:=by have:=HS3.out;omega
    obtain ⟨gu,ou,rfl,hgu,hcu⟩:=HU.out gn hgl
    obtain ⟨sv,hsv⟩:∃ sv,sv=x.sers.getD gn 0:=⟨_,rfl⟩
    rw[← hsv] at hcu
    rw[hgn] at c0
    have HSV:Hid (sv=x.sers.getD (x.todo.getD 0 default).group.toNat 0):=by unfold Hid;rw[← HY0.out,hgn];exact hsv
    have q7:(gn:Int)<(x.sers.length:Int):=by omega
    have q8:(0:Int)<(x.todo.length:Int):=by omega
    have q8n:0<x.todo.length:=by omega
    have SF:Hid (∀ W,Below w.heap.size w W→Blk W w.heap.size #[.int .i64 x.id,.slice (some ⟨gu,ou,none⟩) x.sers.length cu,.bool x.busy,.int .i64 x.call.kind,.string x.call.key,.int .i64 x.call.frm,.int .i64 x.call.til,.string x.call.data,.int .i64 x.begun,.slice L x.legs.length cl,.slice (some ⟨g,off,none⟩) x.todo.length ct] 35→W.cell? ⟨w.heap.size,1,none⟩=some (.slice (some ⟨gu,ou,none⟩) x.sers.length cu)∧W.cell? ⟨w.heap.size,9,none⟩=some (.slice L x.legs.length cl)∧W.cell? ⟨w.heap.size,10,none⟩=some (.slice (some ⟨g,off,none⟩) x.todo.length ct)∧W.cell? ⟨g,off,none⟩=some (.int .i64 (gn:Int))∧W.cell? ⟨gu,ou+gn,none⟩=some (.int .i64 sv)):=fun W hb hk=>⟨hk.cell 1 _ rfl,hk.cell 9 _ rfl,hk.cell 10 _ rfl,(hb.cell (p:=⟨g,off,none⟩) (Nat.lt_of_lt_of_le hg2 HBB.out)).trans c0,(hb.cell (p:=⟨gu,ou+gn,none⟩) (Nat.lt_of_lt_of_le hgu HBB.out)).trans hcu⟩
    have KO:=Hid.mkQ (K1.out.on HW.out K1.out.lt)
    have BD:=Hid.mkQ BO.out.drew
    have KD:=Hid.mkQ (KO.out.on (Below.refl _ wo).drew KO.out.lt)
    have S0:=Hid.mkQ (SF.out _ BD.out KD.out)
    clear hy0 hsv hg2 hgu c0 hcu
    go_wp2_with fail
    clear m0 m1 m2 m3 m4 m5 m6 m7 m8 m9 m10
    by_cases hs1:1≤sv
    ·have q10:decide (1≤sv)=true:=decide_eq_true hs1
     have cL:=implLegsOk x.legs L cl wo.drew B (fun j hj=>by
      obtain ⟨g1,o1,e,hg,d0,d1,d2,d3,d4,d5,d6,d7,d8,d9,d10⟩:=HLG.out j hj
      have hgb:=Nat.lt_of_lt_of_le hg HBB.out
      exact ⟨g1,o1,e,hg,(BD.out.cell (p:=⟨g1,_,none⟩) hgb).trans d0,(BD.out.cell (p:=⟨g1,_,none⟩) hgb).trans d1,(BD.out.cell (p:=⟨g1,_,none⟩) hgb).trans d2,(BD.out.cell (p:=⟨g1,_,none⟩) hgb).trans d3,(BD.out.cell (p:=⟨g1,_,none⟩) hgb).trans d4,(BD.out.cell (p:=⟨g1,_,none⟩) hgb).trans d5,(BD.out.cell (p:=⟨g1,_,none⟩) hgb).trans d6,(BD.out.cell (p:=⟨g1,_,none⟩) hgb).trans d7,(BD.out.cell (p:=⟨g1,_,none⟩) hgb).trans d8,(BD.out.cell (p:=⟨g1,_,none⟩) hgb).trans d9,(BD.out.cell (p:=⟨g1,_,none⟩) hgb).trans d10⟩) (Nat.le_trans HBB.out BD.out.size) HLN.out HLX.out (HST.out.on BD.out) e0 e1 e2 (HER.out.on BD.out)
     refine wp_region_until (fun w'=>w'.cell? ⟨w.heap.size,1,none⟩=some (.slice (some ⟨gu,ou,none⟩) x.sers.length cu)∧w'.cell? ⟨w.heap.size,9,none⟩=some (.slice L x.legs.length cl)∧w'.cell? ⟨w.heap.size,10,none⟩=some (.slice (some ⟨g,off,none⟩) x.todo.length ct)∧w'.cell? ⟨g,off,none⟩=some (.int .i64 (gn:Int))∧w'.cell? ⟨gu,ou+gn,none⟩=some (.int .i64 sv)) (fun i=>false) 16 (by rfl) (by kernel_rfl) ?_
     refine pF 0 ?_
     refine tF 1 S0.out ?_
     refine pF 2 ?_
     refine tF 3 S0.out ?_
     refine pF 4 ?_
     refine pF 5 ?_
     refine tF 6 S0.out ?_
     refine pF 7 ?_
     refine tF 8 S0.out ?_
     refine pF 9 ?_
     refine pF 10 ?_
     refine pF 11 ?_
     refine tF 12 S0.out ?_
     refine uNe 13 (fun K hK=>?_)
     go_simp
     refine cL.mono ?_
     rintro e w5 ⟨hbl,hb⟩
     have B5:=Hid.mkQ (BD.out.trans (hb.mono BD.out.size))
     have S5:=Hid.mkQ (SF.out _ B5.out (KD.out.on hb KD.out.lt))
     clear hb cL
     rcases hbl.arms with ⟨rfl,hq⟩ | ⟨rfl,hq⟩
     ·go_wp2_with fail
      refine hK.out _ _ (fun _ _=>S5.out) ?_
      clear hK K
      try simp only[Act.put,zQ1,zQ2,zQ3]
      refine pF 14 ?_
      refine pF 15 ?_
      refine until_done (by kernel_rfl) ?_ _
      go_wp2_with fail
      go_ret
      have hla:=legs_all.1 hq
      exact ⟨Told.yes ⟨HC.out,by omega,by omega,(fun hl=>absurd (by rw[hl];rfl) L0.out),fun y hy=>(by obtain ⟨j,hj,rfl⟩:=List.mem_iff_getElem.1 hy;have h2:=HTG.out j hj;rw[tdoI_get hj] at h2;have h3:=inRgI_is h2.1;exact ⟨⟨by omega,by omega⟩,fun _=>by omega,h2.2⟩),hla,by rw[← HSV.out];exact hs1⟩,B5.out⟩
     ·go_wp2_with fail
      refine hK.out _ _ (fun _ _=>S5.out) ?_
      clear hK K
      try simp only[Act.put,zQ1,zQ2,zQ3]
      refine pF 14 ?_
      refine pF 15 ?_
      refine until_done (by kernel_rfl) ?_ _
      go_wp2_with fail
      go_ret
      exact ⟨Told.no (fun h=>hq (legs_all.2 h.lg)),B5.out⟩
    ·have HS1:=Hid.mkQ hs1
     have q9:sv<1:=by omega
     have q10:decide (1≤sv)=false:=decide_eq_false (by omega)
     refine wp_region_until (fun w'=>w'.cell? ⟨w.heap.size,1,none⟩=some (.slice (some ⟨gu,ou,none⟩) x.sers.length cu)∧w'.cell? ⟨w.heap.size,9,none⟩=some (.slice L x.legs.length cl)∧w'.cell? ⟨w.heap.size,10,none⟩=some (.slice (some ⟨g,off,none⟩) x.todo.length ct)∧w'.cell? ⟨g,off,none⟩=some (.int .i64 (gn:Int))∧w'.cell? ⟨gu,ou+gn,none⟩=some (.int .i64 sv)) (fun i=>false) 16 (by rfl) (by kernel_rfl) ?_
     refine pF 0 ?_
     refine tF 1 S0.out ?_
     refine pF 2 ?_
     refine tF 3 S0.out ?_
     refine pF 4 ?_
     refine pF 5 ?_
     refine tF 6 S0.out ?_
     refine pF 7 ?_
     refine tF 8 S0.out ?_
     refine pF 9 ?_
     refine pF 10 ?_
     refine sF 11 ?_
     refine sF 12 ?_
     refine sF 13 ?_
     refine pF 14 ?_
     refine pF 15 ?_
     refine until_done (by kernel_rfl) ?_ _
     go_wp2_with fail
     go_ret
     exact ⟨Told.no (fun h=>absurd h.ser (by rw[← HSV.out];have:=HS1.out;omega)),BD.out⟩
end Go.Proofs.YtedmdilabbolaaaGreatDoor
namespace Go.Proofs.YtedmdilabbolaaaGreatDoor
open Go.ChangeShapes Go.WideShapes Go.ChangeAt Go.RowKit Go.PlainAid
set_option linter.unusedVariables false
set_option maxRecDepth 20000 in
set_option maxHeartbeats 8000000 in
theorem implRouterOk (x:Rtr) (v:Value) (w:World) (B:Nat) (hv:RtrV w B v x) (hB:B≤w.heap.size) (hk:x.call.key.size≤maxLen) (hd:x.call.data.size≤1048576) (hn:x.sers.length≤1048576) (hl:x.legs.length≤1048576) (ht:x.todo.length≤1048576) (hlx:∀ y∈x.legs,y.key.size≤maxLen∧y.data.size≤1048576∧y.told.size≤maxLen) (htx:∀ y∈x.todo,y.key.size≤maxLen∧y.data.size≤1048576) (hst:SumTab w) (e0 e1 e2:Addr) (he:Errs w e0 e1 e2) :
  Calls Tryz.prog 9 #[v] w fun e w'=>e=.returned (.bool (rtOk x))∧Below w.heap.size w w':=by
 have HVV:=Hid.mkQ hv
 obtain ⟨us,ul,ut,rfl,h1,h2,h3⟩:=hv
 obtain ⟨U,cu,rfl,hcu,-,hu⟩:=h1
 obtain ⟨L,cl,rfl,hl1⟩:=lgx_look h2
 obtain ⟨T,ct,rfl,ht1⟩:=tdo_look h3
 have HU:=Hid.mkQ hu
 have HLG:Hid (LegsAt w B L x.legs):=hl1
 have HTD:=Hid.mkQ ht1
 have HLX:=Hid.mkQ hlx
 have HTX:=Hid.mkQ htx
 have HBB:=Hid.mkQ hB
 have HCK:=Hid.mkQ hk
 have HCD:=Hid.mkQ hd
 have HST:=Hid.mkQ hst
 have HER:=Hid.mkQ he
 have HLN:=Hid.mkQ hl
 have qs:(x.sers.length:Int)≤1048576:=by omega
 have ql:(x.legs.length:Int)≤1048576:=by omega
 have qt:(x.todo.length:Int)≤1048576:=by omega
 unfold vRtr
 obtain ⟨X,hX⟩:∃ X,X=w.alloc (.cells #[.int .i64 x.id,.slice U x.sers.length cu,.bool x.busy,.int .i64 x.call.kind,.string x.call.key,.int .i64 x.call.frm,.int .i64 x.call.til,.string x.call.data,.int .i64 x.begun,.slice L x.legs.length cl,.slice T x.todo.length ct] 35):=⟨_,rfl⟩
 have BX:Hid (Below w.heap.size w X):=by unfold Hid;rw[hX];exact below_a1 _ _
 have KX:Hid (Blk X w.heap.size #[.int .i64 x.id,.slice U x.sers.length cu,.bool x.busy,.int .i64 x.call.kind,.string x.call.key,.int .i64 x.call.frm,.int .i64 x.call.til,.string x.call.data,.int .i64 x.begun,.slice L x.legs.length cl,.slice T x.todo.length ct] 35):=by unfold Hid;rw[hX];exact Blk.new w _ _
 have HN:=Hid.mkQ hn
 have HTN:=Hid.mkQ ht
 clear hu hl1 ht1 hlx htx hB h2 h3 hcu hk hd hn hl ht hst he
 obtain ⟨k0,k1,k2,k3,k4,k5,k6,k7,k8,k9,k10⟩:X.cell? ⟨w.heap.size,0,none⟩=some (.int .i64 x.id)∧X.cell? ⟨w.heap.size,1,none⟩=some (.slice U x.sers.length cu)∧X.cell? ⟨w.heap.size,2,none⟩=some (.bool x.busy)∧X.cell? ⟨w.heap.size,3,none⟩=some (.int .i64 x.call.kind)∧X.cell? ⟨w.heap.size,4,none⟩=some (.string x.call.key)∧X.cell? ⟨w.heap.size,5,none⟩=some (.int .i64 x.call.frm)∧X.cell? ⟨w.heap.size,6,none⟩=some (.int .i64 x.call.til)∧X.cell? ⟨w.heap.size,7,none⟩=some (.string x.call.data)∧X.cell? ⟨w.heap.size,8,none⟩=some (.int .i64 x.begun)∧X.cell? ⟨w.heap.size,9,none⟩=some (.slice L x.legs.length cl)∧X.cell? ⟨w.heap.size,10,none⟩=some (.slice T x.todo.length ct):=⟨KX.out.cell 0 _ rfl,KX.out.cell 1 _ rfl,KX.out.cell 2 _ rfl,KX.out.cell 3 _ rfl,KX.out.cell 4 _ rfl,KX.out.cell 5 _ rfl,KX.out.cell 6 _ rfl,KX.out.cell 7 _ rfl,KX.out.cell 8 _ rfl,KX.out.cell 9 _ rfl,KX.out.cell 10 _ rfl⟩
 rw[hX] at k0 k1 k2 k3 k4 k5 k6 k7 k8 k9 k10
 have a1:=fun wx=>inI x.id 1 4 wx
 have aB:=fun wx=>inI x.begun 0 1000000 wx
 have aS:=implSerialsOk x.sers U cu X B (fun j hj=>by
  obtain ⟨g1,o1,e,hg,d⟩:=HU.out j hj
  exact ⟨g1,o1,e,hg,(BX.out.cell (p:=⟨g1,_,none⟩) (Nat.lt_of_lt_of_le hg HBB.out)).trans d⟩) HN.out
 go_enter Tryz.func9,Tryz.ntmps9
 go_wp2_with fail
 rw[← hX]
 rw[← hX] at k0 k1 k2 k3 k4 k5 k6 k7 k8 k9 k10
 clear hX
 cases hid:inRg x.id 1 4<;>rw[hid] at a1
 ·refine (a1 _).mono ?_
  rintro e w' ⟨rfl,rfl⟩
  go_wp2_with fail
  go_ret
  exact ⟨by rw[rtOk_no (fun h=>by have:=inRgI_yes h.id.1 h.id.2;rw[hid] at this;cases this)];rfl,BX.out⟩
 have HID:=Hid.mkQ (inRgI_is hid)
 refine (a1 _).mono ?_
 rintro e w' ⟨rfl,rfl⟩
 clear a1 hid
 go_wp2_with fail
 refine aS.mono ?_
 rintro e w' ⟨hbs,rfl⟩
 clear aS
 rcases hbs.arms with ⟨rfl,hq⟩ | ⟨rfl,hq⟩
 rotate_left
 ·go_wp2_with fail
  go_ret
  exact ⟨by rw[rtOk_no (fun h=>hq ⟨h.sn,fun j hj=>by rw[getD_lt0I hj];have:=h.ser _ (List.getElem_mem hj);exact inRgI_yes this.1 this.2⟩)];rfl,BX.out⟩
 have hbs2:_∧_:=hq
 have HS3:=Hid.mkQ hbs2.1
 have HSR:Hid (∀ y∈x.sers,0≤y∧y≤1000000):=fun y hy=>by
  obtain ⟨j,hj,rfl⟩:=List.mem_iff_getElem.1 hy
  have:=hbs2.2 j hj
  rw[getD_lt0I hj] at this
  exact inRgI_is this
 clear hbs hq hbs2
 go_wp2_with fail
 cases hbg:inRg x.begun 0 1000000<;>rw[hbg] at aB
 ·refine (aB _).mono ?_
  rintro e w' ⟨rfl,rfl⟩
  go_wp2_with fail
  go_ret
  exact ⟨by rw[rtOk_no (fun h=>by have:=inRgI_yes h.bg.1 h.bg.2;rw[hbg] at this;cases this)];rfl,BX.out⟩
 have HBG:=Hid.mkQ (inRgI_is hbg)
 refine (aB _).mono ?_
 rintro e w' ⟨rfl,rfl⟩
 clear aB hbg
 cases hbz:x.busy
 ·rw[hbz] at k2
  by_cases e0:x.call.kind=0
  ·rw[e0] at k3
   by_cases e1:x.call.key=⟨#[]⟩
   ·rw[e1] at k4
    by_cases e2:x.call.frm=0
    ·rw[e2] at k5
     by_cases e3:x.call.til=0
     ·rw[e3] at k6
      by_cases e4:x.call.data=⟨#[]⟩
      ·rw[e4] at k7
       by_cases e5:x.begun=0
       ·rw[e5] at k8
        by_cases e6:x.legs.length=0
        ·have m6:=nzI_yes e6
         by_cases e7:x.todo.length=0
         ·have m7:=nzI_yes e7
          have HF:Hid (RtOk x):=⟨HID.out,HS3.out,HBG.out,HSR.out,fun _=>⟨e0,by rw[e1];exact emI_none,e2,e3,by rw[e4];exact emI_none,e5,List.eq_nil_of_length_eq_zero e6,List.eq_nil_of_length_eq_zero e7⟩,fun h=>by rw[hbz] at h;cases h⟩
          go_wp2_with fail
          go_ret
          exact ⟨by rw[rtOk_yes HF.out];rfl,BX.out⟩
         ·have m7:=nzI_no e7
          go_wp2_with fail
          go_ret
          exact ⟨by rw[rtOk_no (fun h=>e7 (by rw[(h.idle hbz).td];rfl))];rfl,BX.out⟩
        ·have m6:=nzI_no e6
         go_wp2_with fail
         go_ret
         exact ⟨by rw[rtOk_no (fun h=>e6 (by rw[(h.idle hbz).l];rfl))];rfl,BX.out⟩
       ·obtain ⟨m1,m2,-⟩:=z_facts e5
        go_wp2_with fail
        go_ret
        exact ⟨by rw[rtOk_no (fun h=>e5 (h.idle hbz).b)];rfl,BX.out⟩
      ·obtain ⟨m1,m2,-,m4⟩:=em_facts e4
       go_wp2_with fail
       go_ret
       exact ⟨by rw[rtOk_no (fun h=>by have:=(h.idle hbz).d;rw[m4] at this;cases this)];rfl,BX.out⟩
     ·obtain ⟨m1,m2,-⟩:=z_facts e3
      go_wp2_with fail
      go_ret
      exact ⟨by rw[rtOk_no (fun h=>e3 (h.idle hbz).t)];rfl,BX.out⟩
    ·obtain ⟨m1,m2,-⟩:=z_facts e2
     go_wp2_with fail
     go_ret
     exact ⟨by rw[rtOk_no (fun h=>e2 (h.idle hbz).f)];rfl,BX.out⟩
   ·obtain ⟨m1,m2,-,m4⟩:=em_facts e1
    go_wp2_with fail
    go_ret
    exact ⟨by rw[rtOk_no (fun h=>by have:=(h.idle hbz).ky;rw[m4] at this;cases this)];rfl,BX.out⟩
  ·obtain ⟨m1,m2,-⟩:=z_facts e0
   go_wp2_with fail
   go_ret
   exact ⟨by rw[rtOk_no (fun h=>e0 (h.idle hbz).k)];rfl,BX.out⟩
 ·have cW:=workI x _ X B (HVV.out.on (BX.out.mono HBB.out)) HS3.out (Nat.le_trans HBB.out BX.out.size) HCK.out HCD.out HN.out HLN.out HTN.out HLX.out HTX.out (HST.out.on BX.out) e0 e1 e2 (HER.out.on BX.out)
  unfold vRtr at cW
  rw[hbz] at cW
  go_wp2_with fail
  refine cW.mono ?_
  rintro e w1 ⟨hb,hb1⟩
  have B1:=Hid.mkQ (BX.out.trans (hb1.mono BX.out.size))
  clear hb1 cW
  rcases hb.arms with ⟨rfl,hq⟩ | ⟨rfl,hq⟩
  ·go_wp2_with fail
   go_ret
   exact ⟨by rw[rtOk_yes ⟨HID.out,HS3.out,HBG.out,HSR.out,fun h=>(by rw[hbz] at h;cases h),fun _=>hq⟩];rfl,B1.out⟩
  ·go_wp2_with fail
   go_ret
   exact ⟨by rw[rtOk_no (fun h=>hq (h.work hbz))];rfl,B1.out⟩
end Go.Proofs.YtedmdilabbolaaaGreatDoor
