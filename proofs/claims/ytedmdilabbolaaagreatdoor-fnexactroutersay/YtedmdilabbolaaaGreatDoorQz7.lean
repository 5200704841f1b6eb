/- OpS RtLeg RtCall RtOkS -/
import Derived.Test.YtedmdilabbolaaaGreatDoorRows
import Derived.Test.YtedmdilabbolaaaGreatDoorQz6
import Derived.Test.YtedmdilabbolaaaGreatDoorQz1
import Derived.WalkKit
import Derived.ProofKit
import Derived.OpenShut
import Derived.Below
import Derived.WalkSmall
import Derived.WalkLawsBesides
import Derived.Outline
import Derived.BigQuiet
import Derived.Deep.QuietTactic
import Derived.Handy
import Derived.Deep.Cut
import Derived.Deep.CutRange
import Derived.Laws.StructEq
import Derived.Lib.OwnKind
import Derived.Deep.CutBlock
import Derived.Test.YtedmdilabbolaaaGreatDoorQr0
import Derived.Test.YtedmdilabbolaaaGreatDoorQr1
import Derived.Test.YtedmdilabbolaaaGreatDoorQr2
import Derived.Test.YtedmdilabbolaaaGreatDoorQr3
import Derived.Test.YtedmdilabbolaaaGreatDoorQr4
import Derived.Test.YtedmdilabbolaaaGreatDoorQr5
import Derived.Test.YtedmdilabbolaaaGreatDoorQr6
import Derived.Test.YtedmdilabbolaaaGreatDoorQr7
namespace Go.Proofs.YtedmdilabbolaaaGreatDoor
open Go.ChangeShapes Go.WideShapes Go.ChangeAt Go.RowKit Go.PlainAid
set_option linter.unusedVariables false
end Go.Proofs.YtedmdilabbolaaaGreatDoor
namespace Go.Proofs.YtedmdilabbolaaaGreatDoor
open Go.ChangeShapes Go.WideShapes Go.ChangeAt Go.RowKit Go.PlainAid
set_option linter.unusedVariables false
end Go.Proofs.YtedmdilabbolaaaGreatDoor
namespace Go.Proofs.YtedmdilabbolaaaGreatDoor
open Go.ChangeShapes Go.WideShapes Go.ChangeAt Go.RowKit Go.PlainAid
set_option linter.unusedVariables false
set_option maxHeartbeats 1000000 in
theorem specCallOk_1 (ky:ByteArray) (f t:Int) (d:ByteArray) (w:World) (hk:ky.size≤maxLen) (hd:d.size≤1048576):Calls Tryz.prog 30 #[vOp ⟨1,ky,f,t,d⟩] w fun e w'=>e=.returned (.bool (callOk ⟨1,ky,f,t,d⟩))∧Below w.heap.size w w':=by
 have HE:Hid (callOk ⟨1,ky,f,t,d⟩=opOk ⟨4,ky,f,t,d⟩):=rfl
 have c1:=fun wx=>specOpOk ⟨4,ky,f,t,d⟩ wx hk hd
 obtain ⟨X,hX⟩:∃ X,X=((w.alloc (.cells #[.int .i64 1,.string ky,.int .i64 f,.int .i64 t,.string d] 31)).alloc (.cells #[.int .i64 4,.string ky,.int .i64 f,.int .i64 t,.string d] 56)):=⟨_,rfl⟩
 have HB:Hid (Below w.heap.size w X):=by unfold Hid;rw[hX];exact ((Below.refl _ w).alloc (Nat.le_refl _) _).alloc (by simp) _
 unfold vOp at c1 ⊢
 go_enter Tryz.func30,Tryz.ntmps30
 go_wp2_with fail
 rw[← hX]
 clear hX
 refine (c1 X).mono ?_
 rintro e w1 ⟨rfl,hb⟩
 have B1:Hid (Below w.heap.size w w1):=HB.out.trans (hb.mono HB.out.size)
 clear hb c1
 generalize opOk ⟨4,ky,f,t,d⟩=bb at *
 go_wp2_with fail
 go_ret
 exact ⟨by rw[HE.out];rfl,B1.out⟩
set_option maxHeartbeats 1000000 in
theorem specCallOk_2 (ky:ByteArray) (f t:Int) (d:ByteArray) (w:World) (hk:ky.size≤maxLen) (hd:d.size≤1048576):Calls Tryz.prog 30 #[vOp ⟨2,ky,f,t,d⟩] w fun e w'=>e=.returned (.bool (callOk ⟨2,ky,f,t,d⟩))∧Below w.heap.size w w':=by
 have HE:Hid (callOk ⟨2,ky,f,t,d⟩=opOk ⟨5,ky,f,t,d⟩):=rfl
 have c1:=fun wx=>specOpOk ⟨5,ky,f,t,d⟩ wx hk hd
 obtain ⟨X,hX⟩:∃ X,X=((w.alloc (.cells #[.int .i64 2,.string ky,.int .i64 f,.int .i64 t,.string d] 31)).alloc (.cells #[.int .i64 5,.string ky,.int .i64 f,.int .i64 t,.string d] 56)):=⟨_,rfl⟩
 have HB:Hid (Below w.heap.size w X):=by unfold Hid;rw[hX];exact ((Below.refl _ w).alloc (Nat.le_refl _) _).alloc (by simp) _
 unfold vOp at c1 ⊢
 go_enter Tryz.func30,Tryz.ntmps30
 go_wp2_with fail
 rw[← hX]
 clear hX
 refine (c1 X).mono ?_
 rintro e w1 ⟨rfl,hb⟩
 have B1:Hid (Below w.heap.size w w1):=HB.out.trans (hb.mono HB.out.size)
 clear hb c1
 generalize opOk ⟨5,ky,f,t,d⟩=bb at *
 go_wp2_with fail
 go_ret
 exact ⟨by rw[HE.out];rfl,B1.out⟩
set_option maxHeartbeats 1000000 in
theorem specCallOk_3 (ky:ByteArray) (f t:Int) (d:ByteArray) (w:World) (hk:ky.size≤maxLen) (hd:d.size≤1048576):Calls Tryz.prog 30 #[vOp ⟨3,ky,f,t,d⟩] w fun e w'=>e=.returned (.bool (callOk ⟨3,ky,f,t,d⟩))∧Below w.heap.size w w':=by
 have HE:Hid (callOk ⟨3,ky,f,t,d⟩=opOk ⟨2,ky,f,t,d⟩):=rfl
 have c1:=fun wx=>specOpOk ⟨2,ky,f,t,d⟩ wx hk hd
 obtain ⟨X,hX⟩:∃ X,X=((w.alloc (.cells #[.int .i64 3,.string ky,.int .i64 f,.int .i64 t,.string d] 31)).alloc (.cells #[.int .i64 2,.string ky,.int .i64 f,.int .i64 t,.string d] 56)):=⟨_,rfl⟩
 have HB:Hid (Below w.heap.size w X):=by unfold Hid;rw[hX];exact ((Below.refl _ w).alloc (Nat.le_refl _) _).alloc (by simp) _
 unfold vOp at c1 ⊢
 go_enter Tryz.func30,Tryz.ntmps30
 go_wp2_with fail
 rw[← hX]
 clear hX
 refine (c1 X).mono ?_
 rintro e w1 ⟨rfl,hb⟩
 have B1:Hid (Below w.heap.size w w1):=HB.out.trans (hb.mono HB.out.size)
 clear hb c1
 generalize opOk ⟨2,ky,f,t,d⟩=bb at *
 go_wp2_with fail
 go_ret
 exact ⟨by rw[HE.out];rfl,B1.out⟩
set_option maxHeartbeats 1000000 in
theorem specCallOk_4 (ky:ByteArray) (f t:Int) (d:ByteArray) (w:World) (hk:ky.size≤maxLen) (hd:d.size≤1048576):Calls Tryz.prog 30 #[vOp ⟨4,ky,f,t,d⟩] w fun e w'=>e=.returned (.bool (callOk ⟨4,ky,f,t,d⟩))∧Below w.heap.size w w':=by
 have HE:Hid (callOk ⟨4,ky,f,t,d⟩=opOk ⟨3,ky,f,t,d⟩):=rfl
 have c1:=fun wx=>specOpOk ⟨3,ky,f,t,d⟩ wx hk hd
 obtain ⟨X,hX⟩:∃ X,X=((w.alloc (.cells #[.int .i64 4,.string ky,.int .i64 f,.int .i64 t,.string d] 31)).alloc (.cells #[.int .i64 3,.string ky,.int .i64 f,.int .i64 t,.string d] 56)):=⟨_,rfl⟩
 have HB:Hid (Below w.heap.size w X):=by unfold Hid;rw[hX];exact ((Below.refl _ w).alloc (Nat.le_refl _) _).alloc (by simp) _
 unfold vOp at c1 ⊢
 go_enter Tryz.func30,Tryz.ntmps30
 go_wp2_with fail
 rw[← hX]
 clear hX
 refine (c1 X).mono ?_
 rintro e w1 ⟨rfl,hb⟩
 have B1:Hid (Below w.heap.size w w1):=HB.out.trans (hb.mono HB.out.size)
 clear hb c1
 generalize opOk ⟨3,ky,f,t,d⟩=bb at *
 go_wp2_with fail
 go_ret
 exact ⟨by rw[HE.out];rfl,B1.out⟩
set_option maxHeartbeats 1000000 in
theorem specCallOk_no (k:Int) (ky:ByteArray) (f t:Int) (d:ByteArray) (w:World) (hk:ky.size≤maxLen) (hd:d.size≤1048576) (h1:¬ k=1) (h2:¬ k=2) (h3:¬ k=3) (h4:¬ k=4):Calls Tryz.prog 30 #[vOp ⟨k,ky,f,t,d⟩] w fun e w'=>e=.returned (.bool (callOk ⟨k,ky,f,t,d⟩))∧Below w.heap.size w w':=by
 have HE:Hid (callOk ⟨k,ky,f,t,d⟩=opOk ⟨0,ky,f,t,d⟩):=by unfold Hid;show opOk ⟨mapK k,ky,f,t,d⟩=_;rw[mapK_facts h1 h2 h3 h4]
 have c1:=fun wx=>specOpOk ⟨0,ky,f,t,d⟩ wx hk hd
 obtain ⟨X,hX⟩:∃ X,X=((w.alloc (.cells #[.int .i64 k,.string ky,.int .i64 f,.int .i64 t,.string d] 31)).alloc (.cells #[.int .i64 0,.string ky,.int .i64 f,.int .i64 t,.string d] 56)):=⟨_,rfl⟩
 have HB:Hid (Below w.heap.size w X):=by unfold Hid;rw[hX];exact ((Below.refl _ w).alloc (Nat.le_refl _) _).alloc (by simp) _
 unfold vOp at c1 ⊢
 go_enter Tryz.func30,Tryz.ntmps30
 go_wp2_with fail
 rw[← hX]
 clear hX
 refine (c1 X).mono ?_
 rintro e w1 ⟨rfl,hb⟩
 have B1:Hid (Below w.heap.size w w1):=HB.out.trans (hb.mono HB.out.size)
 clear hb c1
 generalize opOk ⟨0,ky,f,t,d⟩=bb at *
 go_wp2_with fail
 go_ret
 exact ⟨by rw[HE.out];rfl,B1.out⟩
theorem specCallOk (x:Opx) (w:World) (hk:x.key.size≤maxLen) (hd:x.data.size≤1048576):Calls Tryz.prog 30 #[vOp x] w fun e w'=>e=.returned (.bool (callOk x))∧Below w.heap.size w w':=by
 obtain ⟨k,ky,f,t,d⟩:=x
 by_cases h1:k=1
 ·subst h1;exact specCallOk_1 ky f t d w hk hd
 by_cases h2:k=2
 ·subst h2;exact specCallOk_2 ky f t d w hk hd
 by_cases h3:k=3
 ·subst h3;exact specCallOk_3 ky f t d w hk hd
 by_cases h4:k=4
 ·subst h4;exact specCallOk_4 ky f t d w hk hd
 exact specCallOk_no k ky f t d w hk hd h1 h2 h3 h4
end Go.Proofs.YtedmdilabbolaaaGreatDoor
namespace Go.Proofs.YtedmdilabbolaaaGreatDoor
open Go.ChangeShapes Go.WideShapes Go.ChangeAt Go.RowKit Go.PlainAid
set_option linter.unusedVariables false
theorem inRg_yes {a b c:Int} (h1:b≤a) (h2:a≤c):inRg a b c=true:=by unfold inRg;rw[decide_eq_true h1,decide_eq_true h2];rfl
theorem inRg_is {a b c:Int} (h:inRg a b c=true):b≤a∧a≤c:=by
 unfold inRg at h
 simpa using h
theorem nz_yes {n:Nat} (h:n=0):((n:Int) == 0)=true:=by subst h;rfl
theorem nz_no {n:Nat} (h:¬ n=0):((n:Int) == 0)=false:=by simpa using h
theorem em_none:emB ⟨#[]⟩=true:=by unfold emB;rw[Lib.toList_data];rfl
theorem getD_mem0 {l:List Int} {k:Nat} (h:k<l.length):l.getD k 0∈l:=by
 rw[List.getD_eq_getElem?_getD,List.getElem?_eq_getElem h]
 exact List.getElem_mem h
theorem getD_lt0 {l:List Int} {k:Nat} (h:k<l.length):l.getD k 0=l[k]:=by
 rw[List.getD_eq_getElem?_getD,List.getElem?_eq_getElem h];rfl
theorem tdo_mem {l:List Tdo} {k:Nat} (h:k<l.length):l.getD k default∈l:=by
 rw[List.getD_eq_getElem?_getD,List.getElem?_eq_getElem h]
 exact List.getElem_mem h
theorem tdo_get {l:List Tdo} {k:Nat} (h:k<l.length):l.getD k default=l[k]:=by
 rw[List.getD_eq_getElem?_getD,List.getElem?_eq_getElem h];rfl
theorem lgx_mem {l:List Lgx} {k:Nat} (h:k<l.length):l.getD k default∈l:=by
 rw[List.getD_eq_getElem?_getD,List.getElem?_eq_getElem h]
 exact List.getElem_mem h
theorem lgx_get {l:List Lgx} {k:Nat} (h:k<l.length):l.getD k default=l[k]:=by
 rw[List.getD_eq_getElem?_getD,List.getElem?_eq_getElem h];rfl
def TdG (x:Rtr) (y:Tdo):Prop:=(0≤y.group∧y.group≤2)∧(x.legs≠[]→y.group≠0)∧opOk y.op=true
set_option maxRecDepth 20000 in
set_option maxHeartbeats 8000000 in
theorem specRouterOk (x:Rtr) (v:Value) (w:World) (B:Nat) (hv:RtrV w B v x) (hB:B≤w.heap.size) (hk:x.call.key.size≤maxLen) (hd:x.call.data.size≤1048576) (hn:x.sers.length≤1048576) (hl:x.legs.length≤1048576) (ht:x.todo.length≤1048576) (hlx:∀ y∈x.legs,y.key.size≤maxLen∧y.data.size≤1048576∧y.told.size≤maxLen) (htx:∀ y∈x.todo,y.key.size≤maxLen∧y.data.size≤1048576) :
  Calls Tryz.prog 7 #[v] w fun e w'=>e=.returned (.bool (rtOk x))∧Below w.heap.size w w':=by
 obtain ⟨us,ul,ut,rfl,h1,h2,h3⟩:=hv
 obtain ⟨U,cu,rfl,hcu,-,hu⟩:=h1
 obtain ⟨L,cl,rfl,hl1⟩:=lgx_look h2
 obtain ⟨T,ct,rfl,ht1⟩:=tdo_look h3
 have HU:=Hid.mkQ hu
 have HLG:=Hid.mkQ hl1
 have HTD:=Hid.mkQ ht1
 have HLX:=Hid.mkQ hlx
 have HTX:=Hid.mkQ htx
 have HBB:=Hid.mkQ hB
 have HCK:=Hid.mkQ hk
 have HCD:=Hid.mkQ hd
 have qs:(x.sers.length:Int)≤1048576:=by omega
 have ql:(x.legs.length:Int)≤1048576:=by omega
 have qt:(x.todo.length:Int)≤1048576:=by omega
 clear hu hl1 ht1 hlx htx hB h2 h3 hcu hk hd hn hl ht
 unfold vRtr
 obtain ⟨X,hX⟩:∃ X,X=w.alloc (.cells #[.int .i64 x.id,.slice U x.sers.length cu,.bool x.busy,.int .i64 x.call.kind,.string x.call.key,.int .i64 x.call.frm,.int .i64 x.call.til,.string x.call.data,.int .i64 x.begun,.slice L x.legs.length cl,.slice T x.todo.length ct] 35):=⟨_,rfl⟩
 have BX:Hid (Below w.heap.size w X):=by unfold Hid;rw[hX];exact below_a1 _ _
 have KX:Hid (Blk X w.heap.size #[.int .i64 x.id,.slice U x.sers.length cu,.bool x.busy,.int .i64 x.call.kind,.string x.call.key,.int .i64 x.call.frm,.int .i64 x.call.til,.string x.call.data,.int .i64 x.begun,.slice L x.legs.length cl,.slice T x.todo.length ct] 35):=by unfold Hid;rw[hX];exact Blk.new w _ _
 obtain ⟨k0,k1,k2,k3,k4,k5,k6,k7,k8,k9,k10⟩:X.cell? ⟨w.heap.size,0,none⟩=some (.int .i64 x.id)∧X.cell? ⟨w.heap.size,1,none⟩=some (.slice U x.sers.length cu)∧X.cell? ⟨w.heap.size,2,none⟩=some (.bool x.busy)∧X.cell? ⟨w.heap.size,3,none⟩=some (.int .i64 x.call.kind)∧X.cell? ⟨w.heap.size,4,none⟩=some (.string x.call.key)∧X.cell? ⟨w.heap.size,5,none⟩=some (.int .i64 x.call.frm)∧X.cell? ⟨w.heap.size,6,none⟩=some (.int .i64 x.call.til)∧X.cell? ⟨w.heap.size,7,none⟩=some (.string x.call.data)∧X.cell? ⟨w.heap.size,8,none⟩=some (.int .i64 x.begun)∧X.cell? ⟨w.heap.size,9,none⟩=some (.slice L x.legs.length cl)∧X.cell? ⟨w.heap.size,10,none⟩=some (.slice T x.todo.length ct):=⟨KX.out.cell 0 _ rfl,KX.out.cell 1 _ rfl,KX.out.cell 2 _ rfl,KX.out.cell 3 _ rfl,KX.out.cell 4 _ rfl,KX.out.cell 5 _ rfl,KX.out.cell 6 _ rfl,KX.out.cell 7 _ rfl,KX.out.cell 8 _ rfl,KX.out.cell 9 _ rfl,KX.out.cell 10 _ rfl⟩
 rw[hX] at k0 k1 k2 k3 k4 k5 k6 k7 k8 k9 k10
 go_enter Tryz.func7,Tryz.ntmps7
 go_wp2_with fail
 rw[← hX]
 rw[← hX] at k0 k1 k2 k3 k4 k5 k6 k7 k8 k9 k10
 clear hX
 have a1:=fun wx=>inS x.id 1 4 wx
 cases hid:inRg x.id 1 4<;>rw[hid] at a1
 ·refine (a1 _).mono ?_
  rintro e w' ⟨rfl,rfl⟩
  go_wp2_with fail
  go_ret
  exact ⟨by rw[rtOk_no (fun h=>by have:=inRg_yes h.id.1 h.id.2;rw[hid] at this;cases this)];rfl,BX.out⟩
 ·have HID:=Hid.mkQ (inRg_is hid)
  refine (a1 _).mono ?_
  rintro e w' ⟨rfl,rfl⟩
  clear a1 hid
  by_cases hs3:x.sers.length=3
  ·have HS3:=Hid.mkQ hs3
   have nb:((x.sers.length:Int) != 3)=false:=by rw[hs3];rfl
   clear hs3
   go_wp2_with fail
   clear nb
   have a1:=fun wx=>inS x.begun 0 1000000 wx
   cases hbg:inRg x.begun 0 1000000<;>rw[hbg] at a1
   ·refine (a1 _).mono ?_
    rintro e w' ⟨rfl,rfl⟩
    go_wp2_with fail
    go_ret
    exact ⟨by rw[rtOk_no (fun h=>by have:=inRg_yes h.bg.1 h.bg.2;rw[hbg] at this;cases this)];rfl,BX.out⟩
   ·have HBG:=Hid.mkQ (inRg_is hbg)
    refine (a1 _).mono ?_
    rintro e w' ⟨rfl,rfl⟩
    clear a1 hbg
    go_wp2_with fail
    go_loop [3] (fun i=>∃ k:Nat,k≤x.sers.length∧i=.int .i64 (k:Int)∧Hid (∀ j,j<k→0≤x.sers.getD j 0∧x.sers.getD j 0≤1000000)) (fun i=>x.sers.length - (intOf i).toNat)
    case atStart=>exact ⟨0,Nat.zero_le _,rfl,fun j hj=>absurd hj (Nat.not_lt_zero _)⟩
    case round =>
     obtain ⟨k,hk,rfl,hall⟩:=hrel
     by_cases hkl:k<x.sers.length
     ·have q:(k:Int)<(x.sers.length:Int):=by omega
      obtain ⟨g,off,rfl,hg,hc⟩:=HU.out k hkl
      have hc1:=(BX.out.cell (p:=⟨g,off+k,none⟩) (Nat.lt_of_lt_of_le hg HBB.out)).trans hc
      clear hc
      obtain ⟨y,hy⟩:∃ y,y=x.sers.getD k 0:=⟨_,rfl⟩
      rw[← hy] at hc1
      have HY:=Hid.mkQ hy
      clear hy
      go_wp2_with fail
      have a1:=fun wx=>inS y 0 1000000 wx
      cases hy1:inRg y 0 1000000<;>rw[hy1] at a1
      ·refine (a1 _).mono ?_
       rintro e w' ⟨rfl,rfl⟩
       go_wp2_with fail
       go_ret
       exact ⟨by rw[rtOk_no (fun h=>by have:=h.ser (x.sers.getD k 0) (getD_mem0 hkl);rw[← HY.out] at this;have:=inRg_yes this.1 this.2;rw[hy1] at this;cases this)];rfl,BX.out⟩
      ·have HYB:=inRg_is hy1
       refine (a1 _).mono ?_
       rintro e w' ⟨rfl,rfl⟩
       have HN:Hid (∀ j,j<k+1→0≤x.sers.getD j 0∧x.sers.getD j 0≤1000000):=fun j hj=>by
        by_cases e:j=k
        ·subst e;rw[← HY.out];exact HYB
        ·exact hall.out j (by omega)
       clear HYB a1 hy1 hc1
       go_wp2_with fail
       go_round
       case rel=>exact ⟨k+1,by omega,by go_num,HN⟩
       case measure=>simp[intOf];omega
     ·obtain rfl:k=x.sers.length:=by omega
      have HSR:Hid (∀ y∈x.sers,0≤y∧y≤1000000):=fun y hy=>by
       obtain ⟨j,hj,rfl⟩:=List.mem_iff_getElem.1 hy
       have:=hall.out j hj
       rwa [getD_lt0 hj] at this
      clear hall
      cases hbz:x.busy
      ·by_cases e0:x.call.kind=0
       ·rw[e0] at k3
        by_cases e1:x.call.key=⟨#[]⟩
        ·rw[e1] at k4
         by_cases e2:x.call.frm=0
         ·rw[e2] at k5
          by_cases e3:x.call.til=0
          ·rw[e3] at k6
           by_cases e4:x.call.data=⟨#[]⟩
           ·rw[e4] at k7
            by_cases e5:x.begun=0
            ·rw[e5] at k8
             by_cases e6:x.legs.length=0
             ·have m6:=nz_yes e6
              by_cases e7:x.todo.length=0
              ·have m7:=nz_yes e7
               have HF:Hid (RtOk x):=⟨HID.out,HS3.out,HBG.out,HSR.out,fun _=>⟨e0,by rw[e1];exact em_none,e2,e3,by rw[e4];exact em_none,e5,List.eq_nil_of_length_eq_zero e6,List.eq_nil_of_length_eq_zero e7⟩,fun h=>by rw[hbz] at h;cases h⟩
               go_wp2_with fail
               go_ret
               exact ⟨by rw[rtOk_yes HF.out];rfl,BX.out⟩
              ·have m7:=nz_no e7
               go_wp2_with fail
               go_ret
               exact ⟨by rw[rtOk_no (fun h=>e7 (by rw[(h.idle hbz).td];rfl))];rfl,BX.out⟩
             ·have m6:=nz_no e6
              go_wp2_with fail
              go_ret
              exact ⟨by rw[rtOk_no (fun h=>e6 (by rw[(h.idle hbz).l];rfl))];rfl,BX.out⟩
            ·obtain ⟨m1,m2,-⟩:=z_facts e5
             go_wp2_with fail
             go_ret
             exact ⟨by rw[rtOk_no (fun h=>e5 (h.idle hbz).b)];rfl,BX.out⟩
           ·obtain ⟨m1,m2,-,m4⟩:=em_facts e4
            go_wp2_with fail
            go_ret
            exact ⟨by rw[rtOk_no (fun h=>by have:=(h.idle hbz).d;rw[m4] at this;cases this)];rfl,BX.out⟩
          ·obtain ⟨m1,m2,-⟩:=z_facts e3
           go_wp2_with fail
           go_ret
           exact ⟨by rw[rtOk_no (fun h=>e3 (h.idle hbz).t)];rfl,BX.out⟩
         ·obtain ⟨m1,m2,-⟩:=z_facts e2
          go_wp2_with fail
          go_ret
          exact ⟨by rw[rtOk_no (fun h=>e2 (h.idle hbz).f)];rfl,BX.out⟩
        ·obtain ⟨m1,m2,-,m4⟩:=em_facts e1
         go_wp2_with fail
         go_ret
         exact ⟨by rw[rtOk_no (fun h=>by have:=(h.idle hbz).ky;rw[m4] at this;cases this)];rfl,BX.out⟩
       ·obtain ⟨m1,m2,-⟩:=z_facts e0
        go_wp2_with fail
        go_ret
        exact ⟨by rw[rtOk_no (fun h=>e0 (h.idle hbz).k)];rfl,BX.out⟩
      ·have c1:=fun wx=>specCallOk x.call wx HCK.out HCD.out
       unfold vOp at c1
       go_wp2_with fail
       cases hcb:callOk x.call<;>rw[hcb] at c1
       ·refine (c1 _).mono ?_
        rintro e w1 ⟨rfl,hb⟩
        have B1:Hid (Below w.heap.size w w1):=BX.out.trans (hb.mono BX.out.size)
        clear hb c1
        go_wp2_with fail
        go_ret
        exact ⟨by rw[rtOk_no (fun h=>by have:=(h.work hbz).c;rw[hcb] at this;cases this)];rfl,B1.out⟩
       ·refine (c1 _).mono ?_
        rintro e w1 ⟨rfl,hb⟩
        have B1:Hid (Below w.heap.size w w1):=BX.out.trans (hb.mono BX.out.size)
        have K1:=Hid.mkQ (KX.out.on hb KX.out.lt)
        clear hb c1 k0 k1 k2 k3 k4 k5 k6 k7 k8 k9 k10
        obtain ⟨m0,m1,m2,m3,m4,m5,m6,m7,m8,m9,m10⟩:w1.cell? ⟨w.heap.size,0,none⟩=some (.int .i64 x.id)∧w1.cell? ⟨w.heap.size,1,none⟩=some (.slice U x.sers.length cu)∧w1.cell? ⟨w.heap.size,2,none⟩=some (.bool x.busy)∧w1.cell? ⟨w.heap.size,3,none⟩=some (.int .i64 x.call.kind)∧w1.cell? ⟨w.heap.size,4,none⟩=some (.string x.call.key)∧w1.cell? ⟨w.heap.size,5,none⟩=some (.int .i64 x.call.frm)∧w1.cell? ⟨w.heap.size,6,none⟩=some (.int .i64 x.call.til)∧w1.cell? ⟨w.heap.size,7,none⟩=some (.string x.call.data)∧w1.cell? ⟨w.heap.size,8,none⟩=some (.int .i64 x.begun)∧w1.cell? ⟨w.heap.size,9,none⟩=some (.slice L x.legs.length cl)∧w1.cell? ⟨w.heap.size,10,none⟩=some (.slice T x.todo.length ct):=⟨K1.out.cell 0 _ rfl,K1.out.cell 1 _ rfl,K1.out.cell 2 _ rfl,K1.out.cell 3 _ rfl,K1.out.cell 4 _ rfl,K1.out.cell 5 _ rfl,K1.out.cell 6 _ rfl,K1.out.cell 7 _ rfl,K1.out.cell 8 _ rfl,K1.out.cell 9 _ rfl,K1.out.cell 10 _ rfl⟩
        by_cases t0:x.todo.length=0
        ·have m11:=nz_yes t0
         go_wp2_with fail
         go_ret
         exact ⟨by rw[rtOk_no (fun h=>by have:=(h.work hbz).one;omega)];rfl,B1.out⟩
        ·have m11:=nz_no t0
         by_cases t3:3<x.todo.length+x.legs.length
         ·have q3:(3:Int)<(x.todo.length:Int)+(x.legs.length:Int):=by omega
          go_wp2_with fail
          go_ret
          exact ⟨by rw[rtOk_no (fun h=>by have:=(h.work hbz).few;omega)];rfl,B1.out⟩
         ·have q3:(x.todo.length:Int)+(x.legs.length:Int)≤3:=by omega
          have q4:(0:Int)<(x.todo.length:Int):=by omega
          obtain ⟨g,off,rfl,hg,c0,-⟩:=HTD.out 0 (by omega)
          rw[Nat.zero_mul,Nat.add_zero] at c0
          obtain ⟨y0,hy0⟩:∃ y0,y0=x.todo.getD 0 default:=⟨_,rfl⟩
          rw[← hy0] at c0
          have HY0:=Hid.mkQ hy0
          have HG:=Hid.mkQ hg
          have C0:=Hid.mkQ c0
          have c01:=(B1.out.cell (p:=⟨g,off,none⟩) (Nat.lt_of_lt_of_le hg HBB.out)).trans c0
          clear hy0 hg c0
          go_upto_region 12 with fail
          go_cut [97] from 6 to 161 (fun s97 wc=>∃ b:Bool,s97=.bool b∧w1=wc∧(b=false→x.legs=[]→x.todo.length=1∧y0.group=0)∧(b=true→¬ RtOk x))
          case first =>
           by_cases l0:x.legs.length=0
           ·have m12:=nz_yes l0
            have LE:=List.eq_nil_of_length_eq_zero l0
            by_cases t1:x.todo.length=1
            ·have m13:((x.todo.length:Int) != 1)=false:=by rw[t1];rfl
             by_cases gz:y0.group=0
             ·have m14:(y0.group != 0)=false:=by rw[gz];rfl
              go_wp2_with fail
              go_meet
              exact ⟨false,rfl,rfl,fun _ _=>⟨t1,gz⟩,fun h=>(by cases h)⟩
             ·have m14:(y0.group != 0)=true:=by simpa using gz
              go_wp2_with fail
              go_meet
              exact ⟨true,rfl,rfl,fun h=>(by cases h),fun _ h=>gz (by rw[HY0.out];exact ((h.work hbz).first LE).2)⟩
            ·have m13:((x.todo.length:Int) != 1)=true:=by simp;omega
             go_wp2_with fail
             go_meet
             exact ⟨true,rfl,rfl,fun h=>(by cases h),fun _ h=>t1 ((h.work hbz).first LE).1⟩
           ·have m12:=nz_no l0
            go_wp2_with fail
            go_meet
            exact ⟨false,rfl,rfl,fun _ h=>absurd (by rw[h];rfl) l0,fun h=>(by cases h)⟩
          case rest =>
           obtain ⟨b,rfl,rfl,hb1,hb2⟩:=hcut
           cases b
           ·have HFI:=Hid.mkQ (hb1 rfl)
            clear hb1 hb2
            clear m0 m1 m2 m3 m4 m5 m6 m7 m8 m9 m10 m11 q3 c01
            go_wp2_with fail
            go_loopw [4] (fun i wr=>∃ k:Nat,k≤x.todo.length∧i=.int .i64 (k:Int)∧Hid (∀ j,j<k→TdG x (x.todo.getD j default))∧Below w1.heap.size w1 wr) (fun i _=>x.todo.length - (intOf i).toNat)
            case atStart=>exact ⟨0,Nat.zero_le _,rfl,fun j hj=>absurd hj (Nat.not_lt_zero _),Below.refl _ _⟩
            case round =>
             rename World=>wo
             obtain ⟨k,hk,rfl,hall,hq⟩:=hrel
             have HW:=Hid.mkQ hq
             have BO:Hid (Below w.heap.size w wo):=B1.out.trans (HW.out.mono B1.out.size)
             clear hq
             obtain ⟨m0,m1,m2,m3,m4,m5,m6,m7,m8,m9,m10⟩:wo.cell? ⟨w.heap.size,0,none⟩=some (.int .i64 x.id)∧wo.cell? ⟨w.heap.size,1,none⟩=some (.slice U x.sers.length cu)∧wo.cell? ⟨w.heap.size,2,none⟩=some (.bool x.busy)∧wo.cell? ⟨w.heap.size,3,none⟩=some (.int .i64 x.call.kind)∧wo.cell? ⟨w.heap.size,4,none⟩=some (.string x.call.key)∧wo.cell? ⟨w.heap.size,5,none⟩=some (.int .i64 x.call.frm)∧wo.cell? ⟨w.heap.size,6,none⟩=some (.int .i64 x.call.til)∧wo.cell? ⟨w.heap.size,7,none⟩=some (.string x.call.data)∧wo.cell? ⟨w.heap.size,8,none⟩=some (.int .i64 x.begun)∧wo.cell? ⟨w.heap.size,9,none⟩=some (.slice L x.legs.length cl)∧wo.cell? ⟨w.heap.size,10,none⟩=some (.slice (some ⟨g,off,none⟩) x.todo.length ct):=⟨(K1.out.on HW.out K1.out.lt).cell 0 _ rfl,(K1.out.on HW.out K1.out.lt).cell 1 _ rfl,(K1.out.on HW.out K1.out.lt).cell 2 _ rfl,(K1.out.on HW.out K1.out.lt).cell 3 _ rfl,(K1.out.on HW.out K1.out.lt).cell 4 _ rfl,(K1.out.on HW.out K1.out.lt).cell 5 _ rfl,(K1.out.on HW.out K1.out.lt).cell 6 _ rfl,(K1.out.on HW.out K1.out.lt).cell 7 _ rfl,(K1.out.on HW.out K1.out.lt).cell 8 _ rfl,(K1.out.on HW.out K1.out.lt).cell 9 _ rfl,(K1.out.on HW.out K1.out.lt).cell 10 _ rfl⟩
             by_cases hkl:k<x.todo.length
             ·have qk:(k:Int)<(x.todo.length:Int):=by omega
              obtain ⟨_,_,e2,hg2,c0,c1,c2,c3,c4,c5⟩:=HTD.out k hkl
              cases e2
              have hm:=tdo_mem hkl
              obtain ⟨y,hy⟩:∃ y,y=x.todo.getD k default:=⟨_,rfl⟩
              rw[← hy] at c0 c1 c2 c3 c4 c5 hm
              have HYM:=Hid.mkQ hm
              have HYK:=Hid.mkQ hy
              have HGB:Hid (g<w.heap.size):=Nat.lt_of_lt_of_le hg2 HBB.out
              have CC:=Hid.mkQ (fun (W:World) (h:Below w.heap.size w W)=>show W.cell? ⟨g,off+k*6,none⟩=some (.int .i64 y.group)∧W.cell? ⟨g,off+k*6+1,none⟩=some (.int .i64 y.kind)∧W.cell? ⟨g,off+k*6+2,none⟩=some (.string y.key)∧W.cell? ⟨g,off+k*6+3,none⟩=some (.int .i64 y.frm)∧W.cell? ⟨g,off+k*6+4,none⟩=some (.int .i64 y.til)∧W.cell? ⟨g,off+k*6+5,none⟩=some (.string y.data) from ⟨(h.cell (p:=⟨g,off+k*6,none⟩) HGB.out).trans c0,(h.cell (p:=⟨g,off+k*6+1,none⟩) HGB.out).trans c1,(h.cell (p:=⟨g,off+k*6+2,none⟩) HGB.out).trans c2,(h.cell (p:=⟨g,off+k*6+3,none⟩) HGB.out).trans c3,(h.cell (p:=⟨g,off+k*6+4,none⟩) HGB.out).trans c4,(h.cell (p:=⟨g,off+k*6+5,none⟩) HGB.out).trans c5⟩)
              clear c0 c1 c2 c3 c4 c5 hg2 hm hy
              obtain ⟨c0,c1,c2,c3,c4,c5⟩:=CC.out wo BO.out
              go_wp2_with fail
              have a1:=fun wx=>specGroup y.group wx
              cases hgr:inRg y.group 0 2<;>rw[hgr] at a1
              ·refine (a1 _).mono ?_
               rintro e w' ⟨rfl,rfl⟩
               go_wp2_with fail
               go_ret
               exact ⟨by rw[rtOk_no (fun h=>by have:=((h.work hbz).td y HYM.out).1;have:=inRg_yes this.1 this.2;rw[hgr] at this;cases this)];rfl,BO.out⟩
              ·have HGR:=Hid.mkQ (inRg_is hgr)
               refine (a1 _).mono ?_
               rintro e w' ⟨rfl,rfl⟩
               clear a1 hgr
               by_cases l0:x.legs.length=0
               ·have L0:=Hid.mkQ l0
                have q6:¬ (0:Int)<(x.legs.length:Int):=by omega
                clear l0
                have a3:=fun wx=>specOpOk y.op wx (HTX.out y HYM.out).1 (HTX.out y HYM.out).2
                simp only[vOp,Tdo.op] at a3
                go_wp2_with fail
                cases hop:opOk ⟨y.kind,y.key,y.frm,y.til,y.data⟩<;>rw[hop] at a3
                ·refine (a3 _).mono ?_
                 rintro e w3 ⟨rfl,hb⟩
                 have B3:Hid (Below w.heap.size w w3):=BO.out.trans (hb.mono BO.out.size)
                 clear hb a3
                 go_wp2_with fail
                 go_ret
                 exact ⟨by rw[rtOk_no (fun h=>by have:=((h.work hbz).td y HYM.out).2.2;unfold Tdo.op at this;rw[hop] at this;cases this)];rfl,B3.out⟩
                ·refine (a3 _).mono ?_
                 rintro e w3 ⟨rfl,hb⟩
                 have W3:=Hid.mkQ (HW.out.trans (hb.mono HW.out.size))
                 have HN:Hid (∀ j,j<k+1→TdG x (x.todo.getD j default)):=fun j hj=>by
                  by_cases ej:j=k
                  ·subst ej;rw[← HYK.out];exact ⟨HGR.out,fun h=>absurd (List.eq_nil_of_length_eq_zero L0.out) h,hop⟩
                  ·exact hall.out j (by omega)
                 clear hb a3 m0 m1 m2 m3 m4 m5 m6 m7 m8 m9 m10 c0 c1 c2 c3 c4 c5
                 go_wp2_with fail
                 go_roundw
                 case rel=>exact ⟨k+1,by omega,by go_num,HN,W3.out⟩
                 case measure=>simp[intOf];omega
               ·have m12:=nz_no l0
                have q6:(0:Int)<(x.legs.length:Int):=by omega
                by_cases gz:y.group=0
                ·have m14:(y.group == 0)=true:=by simpa using gz
                 go_wp2_with fail
                 go_ret
                 exact ⟨by rw[rtOk_no (fun h=>((h.work hbz).td y HYM.out).2.1 (fun hl=>l0 (by rw[hl];rfl)) gz)];rfl,BO.out⟩
                ·have m14:(y.group == 0)=false:=by simpa using gz
                 have a3:=fun wx=>specOpOk y.op wx (HTX.out y HYM.out).1 (HTX.out y HYM.out).2
                 simp only[vOp,Tdo.op] at a3
                 go_wp2_with fail
                 cases hop:opOk ⟨y.kind,y.key,y.frm,y.til,y.data⟩<;>rw[hop] at a3
                 ·refine (a3 _).mono ?_
                  rintro e w3 ⟨rfl,hb⟩
                  have B3:Hid (Below w.heap.size w w3):=BO.out.trans (hb.mono BO.out.size)
                  clear hb a3
                  go_wp2_with fail
                  go_ret
                  exact ⟨by rw[rtOk_no (fun h=>by have:=((h.work hbz).td y HYM.out).2.2;unfold Tdo.op at this;rw[hop] at this;cases this)];rfl,B3.out⟩
                 ·refine (a3 _).mono ?_
                  rintro e w3 ⟨rfl,hb⟩
                  have W3:=Hid.mkQ (HW.out.trans (hb.mono HW.out.size))
                  have HN:Hid (∀ j,j<k+1→TdG x (x.todo.getD j default)):=fun j hj=>by
                   by_cases ej:j=k
                   ·subst ej;rw[← HYK.out];exact ⟨HGR.out,fun _=>gz,hop⟩
                   ·exact hall.out j (by omega)
                  clear hb a3 m0 m1 m2 m3 m4 m5 m6 m7 m8 m9 m10 c0 c1 c2 c3 c4 c5
                  go_wp2_with fail
                  go_roundw
                  case rel=>exact ⟨k+1,by omega,by go_num,HN,W3.out⟩
                  case measure=>simp[intOf];omega
             ·obtain rfl:k=x.todo.length:=by omega
              have HTG:Hid (∀ y∈x.todo,TdG x y):=fun y hy=>by
               obtain ⟨j,hj,rfl⟩:=List.mem_iff_getElem.1 hy
               have:=hall.out j hj
               rwa [tdo_get hj] at this
              clear hall
              go_wp2_with fail
              clear m0 m1 m2 m3 m4 m5 m6 m7 m8 m9 m10
              go_loopw [5] (fun i wr=>∃ k:Nat,k≤x.legs.length∧i=.int .i64 (k:Int)∧Hid (∀ j,j<k→LgOk (x.legs.getD j default))∧Below wo.heap.size wo wr) (fun i _=>x.legs.length - (intOf i).toNat)
              case atStart=>exact ⟨0,Nat.zero_le _,rfl,fun j hj=>absurd hj (Nat.not_lt_zero _),Below.refl _ _⟩
              case round =>
               rename World=>wq
               obtain ⟨k,hk,rfl,hall,hq⟩:=hrel
               have HQ:=Hid.mkQ hq
               have BQ:Hid (Below w.heap.size w wq):=BO.out.trans (HQ.out.mono BO.out.size)
               have KQ:=Hid.mkQ ((K1.out.on HW.out K1.out.lt).on HQ.out (K1.out.on HW.out K1.out.lt).lt)
               clear hq
               obtain ⟨m0,m1,m2,m3,m4,m5,m6,m7,m8,m9,m10⟩:wq.cell? ⟨w.heap.size,0,none⟩=some (.int .i64 x.id)∧wq.cell? ⟨w.heap.size,1,none⟩=some (.slice U x.sers.length cu)∧wq.cell? ⟨w.heap.size,2,none⟩=some (.bool x.busy)∧wq.cell? ⟨w.heap.size,3,none⟩=some (.int .i64 x.call.kind)∧wq.cell? ⟨w.heap.size,4,none⟩=some (.string x.call.key)∧wq.cell? ⟨w.heap.size,5,none⟩=some (.int .i64 x.call.frm)∧wq.cell? ⟨w.heap.size,6,none⟩=some (.int .i64 x.call.til)∧wq.cell? ⟨w.heap.size,7,none⟩=some (.string x.call.data)∧wq.cell? ⟨w.heap.size,8,none⟩=some (.int .i64 x.begun)∧wq.cell? ⟨w.heap.size,9,none⟩=some (.slice L x.legs.length cl)∧wq.cell? ⟨w.heap.size,10,none⟩=some (.slice (some ⟨g,off,none⟩) x.todo.length ct):=⟨KQ.out.cell 0 _ rfl,KQ.out.cell 1 _ rfl,KQ.out.cell 2 _ rfl,KQ.out.cell 3 _ rfl,KQ.out.cell 4 _ rfl,KQ.out.cell 5 _ rfl,KQ.out.cell 6 _ rfl,KQ.out.cell 7 _ rfl,KQ.out.cell 8 _ rfl,KQ.out.cell 9 _ rfl,KQ.out.cell 10 _ rfl⟩
               by_cases hkl:k<x.legs.length
               ·have qk:(k:Int)<(x.legs.length:Int):=by omega
                obtain ⟨g3,off3,rfl,hg3,c0,c1,c2,c3,c4,c5,c6,c7,c8,c9,c10⟩:=HLG.out k hkl
                have hm:=lgx_mem hkl
                obtain ⟨y,hy⟩:∃ y,y=x.legs.getD k default:=⟨_,rfl⟩
                rw[← hy] at c0 c1 c2 c3 c4 c5 c6 c7 c8 c9 c10 hm
                have HYM:=Hid.mkQ hm
                have HYK:=Hid.mkQ hy
                have HGB:Hid (g3<w.heap.size):=Nat.lt_of_lt_of_le hg3 HBB.out
                have d0:=(BQ.out.cell (p:=⟨g3,off3+k*11,none⟩) HGB.out).trans c0
                have d1:=(BQ.out.cell (p:=⟨g3,off3+k*11+1,none⟩) HGB.out).trans c1
                have d2:=(BQ.out.cell (p:=⟨g3,off3+k*11+2,none⟩) HGB.out).trans c2
                have d3:=(BQ.out.cell (p:=⟨g3,off3+k*11+3,none⟩) HGB.out).trans c3
                have d4:=(BQ.out.cell (p:=⟨g3,off3+k*11+4,none⟩) HGB.out).trans c4
                have d5:=(BQ.out.cell (p:=⟨g3,off3+k*11+5,none⟩) HGB.out).trans c5
                have d6:=(BQ.out.cell (p:=⟨g3,off3+k*11+6,none⟩) HGB.out).trans c6
                have d7:=(BQ.out.cell (p:=⟨g3,off3+k*11+7,none⟩) HGB.out).trans c7
                have d8:=(BQ.out.cell (p:=⟨g3,off3+k*11+8,none⟩) HGB.out).trans c8
                have d9:=(BQ.out.cell (p:=⟨g3,off3+k*11+9,none⟩) HGB.out).trans c9
                have d10:=(BQ.out.cell (p:=⟨g3,off3+k*11+10,none⟩) HGB.out).trans c10
                clear c0 c1 c2 c3 c4 c5 c6 c7 c8 c9 c10 hg3 hm hy
                have a1:=fun wx=>specLegOk y wx (HLX.out y HYM.out).1 (HLX.out y HYM.out).2.1 (HLX.out y HYM.out).2.2
                unfold vLgx at a1
                go_wp2_with fail
                cases hlg:lgB y<;>rw[hlg] at a1
                ·refine (a1 _).mono ?_
                 rintro e w3 ⟨rfl,hb⟩
                 have B3:Hid (Below w.heap.size w w3):=BQ.out.trans (hb.mono BQ.out.size)
                 clear hb a1
                 go_wp2_with fail
                 go_ret
                 exact ⟨by rw[rtOk_no (fun h=>by have:=lgB_iff.2 ((h.work hbz).lg y HYM.out);rw[hlg] at this;cases this)];rfl,B3.out⟩
                ·refine (a1 _).mono ?_
                 rintro e w3 ⟨rfl,hb⟩
                 have W3:=Hid.mkQ (HQ.out.trans (hb.mono HQ.out.size))
                 have HN:Hid (∀ j,j<k+1→LgOk (x.legs.getD j default)):=fun j hj=>by
                  by_cases ej:j=k
                  ·subst ej;rw[← HYK.out];exact lgB_iff.1 hlg
                  ·exact hall.out j (by omega)
                 clear hb a1 m0 m1 m2 m3 m4 m5 m6 m7 m8 m9 m10 d0 d1 d2 d3 d4 d5 d6 d7 d8 d9 d10
                 go_wp2_with fail
                 go_roundw
                 case rel=>exact ⟨k+1,by omega,by go_num,HN,W3.out⟩
                 case measure=>simp[intOf];omega
               ·obtain rfl:k=x.legs.length:=by omega
                have HLA:Hid (∀ y∈x.legs,LgOk y):=fun y hy=>by
                 obtain ⟨j,hj,rfl⟩:=List.mem_iff_getElem.1 hy
                 have:=hall.out j hj
                 rwa [lgx_get hj] at this
                clear hall
                have hmm:=tdo_mem (l:=x.todo) (k:=0) (by omega)
                rw[← HY0.out] at hmm
                have hgr:=(HTG.out y0 hmm).1
                obtain ⟨gn,hgn⟩:∃ gn:Nat,y0.group=(gn:Int):=⟨y0.group.toNat,by omega⟩
                have hs3:=HS3.out
                have hgl:gn<x.sers.length:=by omega
                obtain ⟨gu,ou,rfl,hgu,hcu⟩:=HU.out gn hgl
                obtain ⟨sv,hsv⟩:∃ sv,sv=x.sers.getD gn 0:=⟨_,rfl⟩
                rw[← hsv] at hcu
                have z1:=C0.out
                rw[hgn] at z1
                have HSV:Hid (sv=x.sers.getD (x.todo.getD 0 default).group.toNat 0):=by unfold Hid;rw[← HY0.out,hgn];exact hsv
                have q7:(gn:Int)<(x.sers.length:Int):=by omega
                have q8:0<x.todo.length:=by omega
                have HMM:=Hid.mkQ hmm
                have BD:=BQ.out.drew
                have y1:=(KQ.out.on (Below.refl _ wq).drew KQ.out.lt).cell 1 _ rfl
                have y2:=(KQ.out.on (Below.refl _ wq).drew KQ.out.lt).cell 10 _ rfl
                have y3:=(BD.cell (p:=⟨g,off,none⟩) (Nat.lt_of_lt_of_le HG.out HBB.out)).trans z1
                have y4:=(BD.cell (p:=⟨gu,ou+gn,none⟩) (Nat.lt_of_lt_of_le hgu HBB.out)).trans hcu
                have HSC:Hid (wq.drew.cell? ⟨w.heap.size,1,none⟩=some (.slice (some ⟨gu,ou,none⟩) x.sers.length cu)∧wq.drew.cell? ⟨w.heap.size,10,none⟩=some (.slice (some ⟨g,off,none⟩) x.todo.length ct)∧wq.drew.cell? ⟨g,off,none⟩=some (.int .i64 (gn:Int))∧wq.drew.cell? ⟨gu,ou+gn,none⟩=some (.int .i64 sv)):=⟨y1,y2,y3,y4⟩
                have HBD:=Hid.mkQ BD
                clear y1 y2 y3 y4 z1 hcu hgu hsv hgn hgr hmm hs3 BD
                go_upto_region 24 with fail
                clear m0 m1 m2 m3 m4 m5 m6 m7 m8 m9 m10
                refine wp_region_until (fun w'=>w'.cell? ⟨w.heap.size,1,none⟩=some (.slice (some ⟨gu,ou,none⟩) x.sers.length cu)∧w'.cell? ⟨w.heap.size,10,none⟩=some (.slice (some ⟨g,off,none⟩) x.todo.length ct)∧w'.cell? ⟨g,off,none⟩=some (.int .i64 (gn:Int))∧w'.cell? ⟨gu,ou+gn,none⟩=some (.int .i64 sv)) (fun _=>false) 11 (by rfl) (by kernel_rfl) ?_
                refine pF 0 ?_
                refine tF 1 HSC.out ?_
                refine pF 2 ?_
                refine tF 3 HSC.out ?_
                refine pF 4 ?_
                refine pF 5 ?_
                refine tF 6 HSC.out ?_
                refine pF 7 ?_
                refine tF 8 HSC.out ?_
                refine pF 9 ?_
                refine pF 10 ?_
                refine until_done (by kernel_rfl) ?_ _
                have HV:Hid (rtOk x=decide (1≤sv)):=by
                 unfold Hid
                 by_cases hs1:1≤sv
                 ·rw[decide_eq_true hs1]
                  exact rtOk_yes ⟨HID.out,HS3.out,HBG.out,HSR.out,fun h=>(by rw[hbz] at h;cases h),fun _=>⟨hcb,by omega,by omega,fun h=>(by have:=HFI.out h;rw[HY0.out] at this;exact this),fun y hy=>HTG.out y hy,HLA.out,by rw[← HSV.out];exact hs1⟩⟩
                 ·rw[decide_eq_false hs1]
                  exact rtOk_no (fun h=>hs1 (by rw[HSV.out];exact (h.work hbz).ser))
                go_wp2_with fail
                go_ret
                exact ⟨by rw[HV.out];rfl,HBD.out⟩
           ·have HN:=Hid.mkQ (hb2 rfl)
            clear hb1 hb2
            go_wp2_with fail
            go_ret
            exact ⟨by rw[rtOk_no HN.out];rfl,B1.out⟩
  ·have nb:((x.sers.length:Int) != 3)=true:=by simp;omega
   go_wp2_with fail
   go_ret
   exact ⟨by rw[rtOk_no (fun h=>hs3 h.sn)];rfl,BX.out⟩
end Go.Proofs.YtedmdilabbolaaaGreatDoor
