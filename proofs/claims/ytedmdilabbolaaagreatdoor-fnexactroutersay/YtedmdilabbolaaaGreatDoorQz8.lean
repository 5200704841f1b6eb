/- CmOpS RtSayS -/
import Derived.Test.YtedmdilabbolaaaGreatDoorRows
import Derived.Test.YtedmdilabbolaaaGreatDoorQz6
import Derived.Test.YtedmdilabbolaaaGreatDoorQz7
import Derived.Test.YtedmdilabbolaaaGreatDoorQz1
import Derived.Test.YtedmdilabbolaaaGreatDoorQz2
import Derived.Deep.Cut
import Derived.Test.YtedmdilabbolaaaGreatDoorQr0
import Derived.Test.YtedmdilabbolaaaGreatDoorQr1
import Derived.Test.YtedmdilabbolaaaGreatDoorQr2
import Derived.Test.YtedmdilabbolaaaGreatDoorQr3
import Derived.Test.YtedmdilabbolaaaGreatDoorQr4
import Derived.Test.YtedmdilabbolaaaGreatDoorQr5
import Derived.Test.YtedmdilabbolaaaGreatDoorQr6
import Derived.Test.YtedmdilabbolaaaGreatDoorQr7
open List (setIfInBounds_toArray set_cons_zero set_cons_succ)
namespace Go.Proofs.YtedmdilabbolaaaGreatDoor
open Go.ChangeShapes Go.WideShapes Go.ChangeAt Go.RowKit Go.PlainAid
set_option linter.unusedVariables false
theorem fixed_oneC (n:Nat) (h:n<256):fixed n 1=txt [byt n]:=by
 unfold fixed
 rw[if_pos (by rw[Nat.pow_one];exact Nat.div_eq_of_lt h)]
 simp[low]
theorem conv_oneC (kn g cap:Nat) (w:World) (h:w.cell? ⟨g,0,none⟩=some (.int .u8 (kn:Int))) (hk:kn<256):(convert 48 9 (.slice (some ⟨g,0,none⟩) 1 cap)).run Tryz.prog w=.ok (.string (txt [byt kn])) w:=by
 refine run_convert_bytes_back (P:=Tryz.prog) w 48 9 5 ⟨g,0,none⟩ cap [byt kn] Tryz.underlying48 Tryz.underlying5 Tryz.underlying9 ?_
 intro j hj
 obtain rfl:j=0:=by simp at hj;omega
 show w.cell? ⟨g,0,none⟩=_
 rw[h]
 have:(byt kn).toNat=kn:=by rw[byt_toNat];omega
 simp[this]
theorem byt_oneC (n:Nat) (h:n<256):IntKind.u8.wrap (n:Int)=(n:Int):=by rw[IntKind.wrap_u8'];omega
set_option maxHeartbeats 4000000 in
theorem implShowOp (x:Opx) (w:World) (hk:x.key.size≤maxLen) (hd:x.data.size≤1048576) (hst:SumTab w) (a0 a1 a2:Addr) (he:Errs w a0 a1 a2):Calls Tryz.prog 48 #[vOp x] w fun e w'=>e=.returned (.string (opT x))∧Below w.heap.size w w':=by
 have c0:=fun wx (hb:Below w.heap.size w wx)=>implOpOk x wx hk hd (hst.on hb) a0 a1 a2 (he.on hb)
 have hb0:=below_c1 w (.cells #[.int .i64 x.kind,.string x.key,.int .i64 x.frm,.int .i64 x.til,.string x.data] 56)
 have k0:=Blk.new w #[.int .i64 x.kind,.string x.key,.int .i64 x.frm,.int .i64 x.til,.string x.data] 56
 clear hst he hk
 cases ho:opOk x
 ·have HE:Hid (opT x=⟨#[]⟩):=by unfold Hid opT;rw[ho];rfl
  rw[ho] at c0
  unfold vOp at *
  clear ho hd k0
  go_enter Tryz.func48,Tryz.ntmps48
  go_wp2_with fail
  generalize w.alloc (.cells #[.int .i64 x.kind,.string x.key,.int .i64 x.frm,.int .i64 x.til,.string x.data] 56)=W at *
  refine (c0 _ hb0).mono ?_
  rintro e w1 ⟨rfl,hb1⟩
  have B1:Hid (Below w.heap.size w w1):=hb0.trans (hb1.mono hb0.size)
  clear hb0 hb1 c0
  go_wp2_with fail
  go_ret
  exact ⟨by rw[HE.out];rfl,B1.out⟩
 obtain ⟨⟨a1,a2⟩,a3,⟨a4,a5⟩,⟨a6,a7⟩⟩:=opOk_in ho
 have HE:Hid (opT x=txt [byt x.kind.toNat]++txt (vF 6 x.key.size)++x.key++txt (vF 6 x.frm.toNat)++txt (vF 6 x.til.toNat)++x.data):=by unfold Hid opT;rw[if_pos ho]
 rw[ho] at c0
 clear ho
 obtain ⟨k,key,f,t,d⟩:=x
 simp only at *
 obtain ⟨kn,rfl⟩:∃ n:Nat,k=(n:Int):=⟨k.toNat,by omega⟩
 obtain ⟨fn,rfl⟩:∃ n:Nat,f=(n:Int):=⟨f.toNat,by omega⟩
 obtain ⟨tn,rfl⟩:∃ n:Nat,t=(n:Int):=⟨t.toNat,by omega⟩
 simp only[Int.toNat_natCast] at HE
 have cF:∀ wx,Calls Tryz.prog 90 #[.int .i64 (kn:Int),.int .i64 1] wx fun e w'=>e=.returned (.string (txt [byt kn]))∧Below wx.heap.size wx w':=fun wx=>by
  have h:=impl_fixed kn 1 wx (by omega) (by omega) (by omega)
  rw[fixed_oneC kn (by omega)] at h
  exact h
 have cN:=fun wx=>impl_var key.size wx (by omega)
 have cA:=fun wx=>impl_var fn wx (by omega)
 have cB:=fun wx=>impl_var tn wx (by omega)
 have l0:(txt [byt kn]).size=1:=by rw[txt_size];rfl
 have l1:(txt (vF 6 key.size)).size≤7:=by rw[txt_size];exact vF_length 6 _
 have l2:(txt (vF 6 fn)).size≤7:=by rw[txt_size];exact vF_length 6 fn
 have l3:(txt (vF 6 tn)).size≤7:=by rw[txt_size];exact vF_length 6 tn
 generalize txt [byt kn]=t0 at *
 generalize txt (vF 6 key.size)=t1 at *
 generalize txt (vF 6 fn)=t2 at *
 generalize txt (vF 6 tn)=t3 at *
 have p1:¬ 9223372036854775807<t0.size+t1.size:=by omega
 have p2:¬ 9223372036854775807<t0.size+t1.size+key.size:=by omega
 have p3:¬ 9223372036854775807<t0.size+t1.size+key.size+t2.size:=by omega
 have p4:¬ 9223372036854775807<t0.size+t1.size+key.size+t2.size+t3.size:=by omega
 have p5:¬ 9223372036854775807<t0.size+t1.size+key.size+t2.size+t3.size+d.size:=by omega
 have hks:(key.size:Int)≤9223372036854775807:=by omega
 clear a1 a2 a3 a4 a5 a6 a7 l0 l1 l2 l3 hd
 unfold vOp at *
 simp only at *
 go_enter Tryz.func48,Tryz.ntmps48
 go_wp2_with fail
 generalize w.alloc (.cells #[.int .i64 (kn:Int),.string key,.int .i64 (fn:Int),.int .i64 (tn:Int),.string d] 56)=W at *
 refine (c0 _ hb0).mono ?_
 rintro e y1 ⟨rfl,hb1⟩
 have D0:Hid (Below w.heap.size w y1.drew):=(hb0.trans (hb1.mono hb0.size)).drew
 have K0:Hid (Blk y1.drew w.heap.size #[.int .i64 (kn:Int),.string key,.int .i64 (fn:Int),.int .i64 (tn:Int),.string d] 56):=k0.on hb1.drew k0.lt
 clear hb0 hb1 c0 k0
 have S0:Hid (y1.drew.cell? ⟨w.heap.size,0,none⟩=some (.int .i64 (kn:Int))∧y1.drew.cell? ⟨w.heap.size,1,none⟩=some (.string key)∧y1.drew.cell? ⟨w.heap.size,2,none⟩=some (.int .i64 (fn:Int))∧y1.drew.cell? ⟨w.heap.size,3,none⟩=some (.int .i64 (tn:Int))∧y1.drew.cell? ⟨w.heap.size,4,none⟩=some (.string d)):=⟨K0.out.cell 0 _ rfl,K0.out.cell 1 _ rfl,K0.out.cell 2 _ rfl,K0.out.cell 3 _ rfl,K0.out.cell 4 _ rfl⟩
 go_wp2_with fail
 refine wp_region_until (fun w'=>w'.cell? ⟨w.heap.size,0,none⟩=some (.int .i64 (kn:Int))∧w'.cell? ⟨w.heap.size,1,none⟩=some (.string key)∧w'.cell? ⟨w.heap.size,2,none⟩=some (.int .i64 (fn:Int))∧w'.cell? ⟨w.heap.size,3,none⟩=some (.int .i64 (tn:Int))∧w'.cell? ⟨w.heap.size,4,none⟩=some (.string d)) (fun i=>false) 23 (by rfl) (by kernel_rfl) ?_
 generalize y1.drew=X at *
 refine tKf 0 S0.out ?_
 refine tKf 1 S0.out ?_
 refine tKf 3 S0.out ?_
 refine tKf 4 S0.out ?_
 refine pUf 5 ?_
 refine tKf 8 S0.out ?_
 refine tKf 9 S0.out ?_
 refine tKf 11 S0.out ?_
 refine tKf 12 S0.out ?_
 refine tKf 15 S0.out ?_
 refine tKf 16 S0.out ?_
 refine tKf 19 S0.out ?_
 refine tKf 20 S0.out ?_
 refine uNe 2 (fun K hK=>?_)
 go_simp
 refine (cF _).mono ?_
 rintro e Y1 ⟨rfl,hb1⟩
 have KY1:Hid (Blk Y1 w.heap.size #[.int .i64 (kn:Int),.string key,.int .i64 (fn:Int),.int .i64 (tn:Int),.string d] 56):=K0.out.on hb1 K0.out.lt
 have DY1:Hid (Below w.heap.size w Y1):=D0.out.trans (hb1.mono D0.out.size)
 clear hb1
 go_wp2_with fail
 refine hK.out _ _ (fun _ _=>⟨KY1.out.cell 0 _ rfl,KY1.out.cell 1 _ rfl,KY1.out.cell 2 _ rfl,KY1.out.cell 3 _ rfl,KY1.out.cell 4 _ rfl⟩) ?_
 clear hK K
 try simp only[Act.put,zQ1,zQ2,zQ3]
 refine uNe 6 (fun K hK=>?_)
 go_simp
 refine (cN _).mono ?_
 rintro e Y2 ⟨rfl,hb2⟩
 have KY2:Hid (Blk Y2 w.heap.size #[.int .i64 (kn:Int),.string key,.int .i64 (fn:Int),.int .i64 (tn:Int),.string d] 56):=KY1.out.on hb2 KY1.out.lt
 have DY2:Hid (Below w.heap.size w Y2):=DY1.out.trans (hb2.mono DY1.out.size)
 clear hb2
 go_wp2_with fail
 refine hK.out _ _ (fun _ _=>⟨KY2.out.cell 0 _ rfl,KY2.out.cell 1 _ rfl,KY2.out.cell 2 _ rfl,KY2.out.cell 3 _ rfl,KY2.out.cell 4 _ rfl⟩) ?_
 clear hK K
 try simp only[Act.put,zQ1,zQ2,zQ3]
 refine pUf 7 ?_
 refine pUf 10 ?_
 refine uNe 13 (fun K hK=>?_)
 go_simp
 refine (cA _).mono ?_
 rintro e Y3 ⟨rfl,hb3⟩
 have KY3:Hid (Blk Y3 w.heap.size #[.int .i64 (kn:Int),.string key,.int .i64 (fn:Int),.int .i64 (tn:Int),.string d] 56):=KY2.out.on hb3 KY2.out.lt
 have DY3:Hid (Below w.heap.size w Y3):=DY2.out.trans (hb3.mono DY2.out.size)
 clear hb3
 go_wp2_with fail
 refine hK.out _ _ (fun _ _=>⟨KY3.out.cell 0 _ rfl,KY3.out.cell 1 _ rfl,KY3.out.cell 2 _ rfl,KY3.out.cell 3 _ rfl,KY3.out.cell 4 _ rfl⟩) ?_
 clear hK K
 try simp only[Act.put,zQ1,zQ2,zQ3]
 refine pUf 14 ?_
 refine uNe 17 (fun K hK=>?_)
 go_simp
 refine (cB _).mono ?_
 rintro e Y4 ⟨rfl,hb4⟩
 have KY4:Hid (Blk Y4 w.heap.size #[.int .i64 (kn:Int),.string key,.int .i64 (fn:Int),.int .i64 (tn:Int),.string d] 56):=KY3.out.on hb4 KY3.out.lt
 have DY4:Hid (Below w.heap.size w Y4):=DY3.out.trans (hb4.mono DY3.out.size)
 clear hb4
 go_wp2_with fail
 refine hK.out _ _ (fun _ _=>⟨KY4.out.cell 0 _ rfl,KY4.out.cell 1 _ rfl,KY4.out.cell 2 _ rfl,KY4.out.cell 3 _ rfl,KY4.out.cell 4 _ rfl⟩) ?_
 clear hK K
 try simp only[Act.put,zQ1,zQ2,zQ3]
 refine pUf 18 ?_
 refine pUf 21 ?_
 refine pUf 22 ?_
 refine until_done (by kernel_rfl) ?_ _
 go_wp2_with fail
 go_ret
 exact ⟨by rw[HE.out];rfl,DY4.out⟩
set_option maxHeartbeats 4000000 in
theorem specShowOp (x:Opx) (w:World) (hk:x.key.size≤maxLen) (hd:x.data.size≤1048576):Calls Tryz.prog 46 #[vOp x] w fun e w'=>e=.returned (.string (opT x))∧Below w.heap.size w w':=by
 have c0:=fun wx=>specOpOk x wx hk hd
 have hb0:=below_c1 w (.cells #[.int .i64 x.kind,.string x.key,.int .i64 x.frm,.int .i64 x.til,.string x.data] 56)
 have k0:=Blk.new w #[.int .i64 x.kind,.string x.key,.int .i64 x.frm,.int .i64 x.til,.string x.data] 56
 clear hk
 cases ho:opOk x
 ·have HE:Hid (opT x=⟨#[]⟩):=by unfold Hid opT;rw[ho];rfl
  rw[ho] at c0
  unfold vOp at *
  clear ho hd k0
  go_enter Tryz.func46,Tryz.ntmps46
  go_wp2_with fail
  generalize w.alloc (.cells #[.int .i64 x.kind,.string x.key,.int .i64 x.frm,.int .i64 x.til,.string x.data] 56)=W at *
  refine (c0 _).mono ?_
  rintro e w1 ⟨rfl,hb1⟩
  have B1:Hid (Below w.heap.size w w1):=hb0.trans (hb1.mono hb0.size)
  clear hb0 hb1 c0
  go_wp2_with fail
  go_ret
  exact ⟨by rw[HE.out];rfl,B1.out⟩
 obtain ⟨⟨a1,a2⟩,a3,⟨a4,a5⟩,⟨a6,a7⟩⟩:=opOk_in ho
 have HE:Hid (opT x=txt [byt x.kind.toNat]++txt (vF 6 x.key.size)++x.key++txt (vF 6 x.frm.toNat)++txt (vF 6 x.til.toNat)++x.data):=by unfold Hid opT;rw[if_pos ho]
 rw[ho] at c0
 clear ho
 obtain ⟨k,key,f,t,d⟩:=x
 simp only at *
 obtain ⟨kn,rfl⟩:∃ n:Nat,k=(n:Int):=⟨k.toNat,by omega⟩
 obtain ⟨fn,rfl⟩:∃ n:Nat,f=(n:Int):=⟨f.toNat,by omega⟩
 obtain ⟨tn,rfl⟩:∃ n:Nat,t=(n:Int):=⟨t.toNat,by omega⟩
 simp only[Int.toNat_natCast] at HE
 have hu8:=byt_oneC kn (by omega)
 have hmod:(kn:Int) % 256=(kn:Int):=by omega
 have hknI:(kn:Int)<256:=by omega
 have cC:∀ g wx,wx.cell? ⟨g,0,none⟩=some (.int .u8 (kn:Int))→(convert 48 9 (.slice (some ⟨g,0,none⟩) 1 1)).run Tryz.prog wx=.ok (.string (txt [byt kn])) wx:=fun g wx h=>conv_oneC kn g 1 wx h (by omega)
 have cN:=fun wx=>spec_var key.size wx (by omega)
 have cA:=fun wx=>spec_var fn wx (by omega)
 have cB:=fun wx=>spec_var tn wx (by omega)
 have l0:(txt [byt kn]).size=1:=by rw[txt_size];rfl
 have l1:(txt (vF 6 key.size)).size≤7:=by rw[txt_size];exact vF_length 6 _
 have l2:(txt (vF 6 fn)).size≤7:=by rw[txt_size];exact vF_length 6 fn
 have l3:(txt (vF 6 tn)).size≤7:=by rw[txt_size];exact vF_length 6 tn
 generalize txt [byt kn]=t0 at *
 generalize txt (vF 6 key.size)=t1 at *
 generalize txt (vF 6 fn)=t2 at *
 generalize txt (vF 6 tn)=t3 at *
 have p1:¬ 9223372036854775807<t0.size+t1.size:=by omega
 have p2:¬ 9223372036854775807<t0.size+t1.size+key.size:=by omega
 have p3:¬ 9223372036854775807<t0.size+t1.size+key.size+t2.size:=by omega
 have p4:¬ 9223372036854775807<t0.size+t1.size+key.size+t2.size+t3.size:=by omega
 have p5:¬ 9223372036854775807<t0.size+t1.size+key.size+t2.size+t3.size+d.size:=by omega
 have hks:(key.size:Int)≤9223372036854775807:=by omega
 clear a1 a2 a3 a4 a5 a6 a7 l0 l1 l2 l3 hd
 unfold vOp at *
 simp only at *
 go_enter Tryz.func46,Tryz.ntmps46
 go_wp2_with fail
 generalize w.alloc (.cells #[.int .i64 (kn:Int),.string key,.int .i64 (fn:Int),.int .i64 (tn:Int),.string d] 56)=W at *
 refine (c0 _).mono ?_
 rintro e y1 ⟨rfl,hb1⟩
 have D0:Hid (Below w.heap.size w y1.drew):=(hb0.trans (hb1.mono hb0.size)).drew
 have K0:Hid (Blk y1.drew w.heap.size #[.int .i64 (kn:Int),.string key,.int .i64 (fn:Int),.int .i64 (tn:Int),.string d] 56):=k0.on hb1.drew k0.lt
 clear hb0 hb1 c0 k0
 have S0:Hid (y1.drew.cell? ⟨w.heap.size,0,none⟩=some (.int .i64 (kn:Int))∧y1.drew.cell? ⟨w.heap.size,1,none⟩=some (.string key)∧y1.drew.cell? ⟨w.heap.size,2,none⟩=some (.int .i64 (fn:Int))∧y1.drew.cell? ⟨w.heap.size,3,none⟩=some (.int .i64 (tn:Int))∧y1.drew.cell? ⟨w.heap.size,4,none⟩=some (.string d)):=⟨K0.out.cell 0 _ rfl,K0.out.cell 1 _ rfl,K0.out.cell 2 _ rfl,K0.out.cell 3 _ rfl,K0.out.cell 4 _ rfl⟩
 go_wp2_with fail
 refine wp_region_until (fun w'=>w'.cell? ⟨w.heap.size,0,none⟩=some (.int .i64 (kn:Int))∧w'.cell? ⟨w.heap.size,1,none⟩=some (.string key)∧w'.cell? ⟨w.heap.size,2,none⟩=some (.int .i64 (fn:Int))∧w'.cell? ⟨w.heap.size,3,none⟩=some (.int .i64 (tn:Int))∧w'.cell? ⟨w.heap.size,4,none⟩=some (.string d)) (fun i=>false) 25 (by rfl) (by kernel_rfl) ?_
 generalize y1.drew=X at *
 refine tKf 0 S0.out ?_
 refine tKf 1 S0.out ?_
 refine pUf 2 ?_
 refine tKf 5 S0.out ?_
 refine tKf 6 S0.out ?_
 refine pUf 7 ?_
 refine tKf 10 S0.out ?_
 refine tKf 11 S0.out ?_
 refine tKf 13 S0.out ?_
 refine tKf 14 S0.out ?_
 refine tKf 17 S0.out ?_
 refine tKf 18 S0.out ?_
 refine tKf 21 S0.out ?_
 refine tKf 22 S0.out ?_
 refine until_two 3 8 (by rfl) (by rfl) (by kernel_rfl) (fun K hK=>?_) (fun K hK=>?_)
 ·go_simp
  have G1:Hid (Blk (X.alloc (.cells #[.int .u8 (kn:Int)] 5)) X.heap.size #[.int .u8 (kn:Int)] 5):=Blk.new _ _ _
  have KY1:Hid (Blk (X.alloc (.cells #[.int .u8 (kn:Int)] 5)) w.heap.size #[.int .i64 (kn:Int),.string key,.int .i64 (fn:Int),.int .i64 (tn:Int),.string d] 56):=K0.out.alloc _
  have DY1:Hid (Below w.heap.size w (X.alloc (.cells #[.int .u8 (kn:Int)] 5))):=D0.out.alloc D0.out.size _
  refine hK.out _ _ (fun _ _=>⟨KY1.out.cell 0 _ rfl,KY1.out.cell 1 _ rfl,KY1.out.cell 2 _ rfl,KY1.out.cell 3 _ rfl,KY1.out.cell 4 _ rfl⟩) ?_
  clear hK K
  generalize hg1:X.heap.size=gb1 at *
  generalize X.alloc (.cells #[.int .u8 (kn:Int)] 5)=Y1 at *
  try simp only[Act.put,zQ1,zQ2,zQ3]
  refine until_two 4 8 (by rfl) (by rfl) (by kernel_rfl) (fun K hK=>?_) (fun K hK=>?_)
  ·have hcv:=cC gb1 Y1 (G1.out.cell 0 _ rfl)
   go_simp
   clear hcv
   refine hK.out _ _ (fun _ h=>h) ?_
   clear hK K
   try simp only[Act.put,zQ1,zQ2,zQ3]
   refine uNe 8 (fun K hK=>?_)
   go_simp
   refine (cN _).mono ?_
   rintro e Y3 ⟨rfl,hb3⟩
   have KY3:Hid (Blk Y3 w.heap.size #[.int .i64 (kn:Int),.string key,.int .i64 (fn:Int),.int .i64 (tn:Int),.string d] 56):=KY1.out.on hb3 KY1.out.lt
   have DY3:Hid (Below w.heap.size w Y3):=DY1.out.trans (hb3.mono DY1.out.size)
   clear hb3
   go_wp2_with fail
   refine hK.out _ _ (fun _ _=>⟨KY3.out.cell 0 _ rfl,KY3.out.cell 1 _ rfl,KY3.out.cell 2 _ rfl,KY3.out.cell 3 _ rfl,KY3.out.cell 4 _ rfl⟩) ?_
   clear hK K
   try simp only[Act.put,zQ1,zQ2,zQ3]
   refine pUf 9 ?_
   refine pUf 12 ?_
   refine uNe 15 (fun K hK=>?_)
   go_simp
   refine (cA _).mono ?_
   rintro e Y4 ⟨rfl,hb4⟩
   have KY4:Hid (Blk Y4 w.heap.size #[.int .i64 (kn:Int),.string key,.int .i64 (fn:Int),.int .i64 (tn:Int),.string d] 56):=KY3.out.on hb4 KY3.out.lt
   have DY4:Hid (Below w.heap.size w Y4):=DY3.out.trans (hb4.mono DY3.out.size)
   clear hb4
   go_wp2_with fail
   refine hK.out _ _ (fun _ _=>⟨KY4.out.cell 0 _ rfl,KY4.out.cell 1 _ rfl,KY4.out.cell 2 _ rfl,KY4.out.cell 3 _ rfl,KY4.out.cell 4 _ rfl⟩) ?_
   clear hK K
   try simp only[Act.put,zQ1,zQ2,zQ3]
   refine pUf 16 ?_
   refine uNe 19 (fun K hK=>?_)
   go_simp
   refine (cB _).mono ?_
   rintro e Y5 ⟨rfl,hb5⟩
   have KY5:Hid (Blk Y5 w.heap.size #[.int .i64 (kn:Int),.string key,.int .i64 (fn:Int),.int .i64 (tn:Int),.string d] 56):=KY4.out.on hb5 KY4.out.lt
   have DY5:Hid (Below w.heap.size w Y5):=DY4.out.trans (hb5.mono DY4.out.size)
   clear hb5
   go_wp2_with fail
   refine hK.out _ _ (fun _ _=>⟨KY5.out.cell 0 _ rfl,KY5.out.cell 1 _ rfl,KY5.out.cell 2 _ rfl,KY5.out.cell 3 _ rfl,KY5.out.cell 4 _ rfl⟩) ?_
   clear hK K
   try simp only[Act.put,zQ1,zQ2,zQ3]
   refine pUf 20 ?_
   refine pUf 23 ?_
   refine pUf 24 ?_
   refine until_done (by kernel_rfl) ?_ _
   go_wp2_with fail
   go_ret
   exact ⟨by rw[HE.out];rfl,DY5.out⟩
  ·go_simp
   refine (cN _).mono ?_
   rintro e Y6 ⟨rfl,hb6⟩
   have KY6:Hid (Blk Y6 w.heap.size #[.int .i64 (kn:Int),.string key,.int .i64 (fn:Int),.int .i64 (tn:Int),.string d] 56):=KY1.out.on hb6 KY1.out.lt
   have DY6:Hid (Below w.heap.size w Y6):=DY1.out.trans (hb6.mono DY1.out.size)
   have G6:Hid (Blk Y6 gb1 #[.int .u8 (kn:Int)] 5):=G1.out.on hb6 G1.out.lt
   clear hb6
   go_wp2_with fail
   refine hK.out _ _ (fun _ _=>⟨KY6.out.cell 0 _ rfl,KY6.out.cell 1 _ rfl,KY6.out.cell 2 _ rfl,KY6.out.cell 3 _ rfl,KY6.out.cell 4 _ rfl⟩) ?_
   clear hK K
   try simp only[Act.put,zQ1,zQ2,zQ3]
   refine until_two 4 15 (by rfl) (by rfl) (by kernel_rfl) (fun K hK=>?_) (fun K hK=>?_)
   ·have hcv:=cC gb1 Y6 (G6.out.cell 0 _ rfl)
    go_simp
    clear hcv
    refine hK.out _ _ (fun _ h=>h) ?_
    clear hK K
    try simp only[Act.put,zQ1,zQ2,zQ3]
    refine pUf 9 ?_
    refine pUf 12 ?_
    refine uNe 15 (fun K hK=>?_)
    go_simp
    refine (cA _).mono ?_
    rintro e Y8 ⟨rfl,hb8⟩
    have KY8:Hid (Blk Y8 w.heap.size #[.int .i64 (kn:Int),.string key,.int .i64 (fn:Int),.int .i64 (tn:Int),.string d] 56):=KY6.out.on hb8 KY6.out.lt
    have DY8:Hid (Below w.heap.size w Y8):=DY6.out.trans (hb8.mono DY6.out.size)
    clear hb8
    go_wp2_with fail
    refine hK.out _ _ (fun _ _=>⟨KY8.out.cell 0 _ rfl,KY8.out.cell 1 _ rfl,KY8.out.cell 2 _ rfl,KY8.out.cell 3 _ rfl,KY8.out.cell 4 _ rfl⟩) ?_
    clear hK K
    try simp only[Act.put,zQ1,zQ2,zQ3]
    refine pUf 16 ?_
    refine uNe 19 (fun K hK=>?_)
    go_simp
    refine (cB _).mono ?_
    rintro e Y9 ⟨rfl,hb9⟩
    have KY9:Hid (Blk Y9 w.heap.size #[.int .i64 (kn:Int),.string key,.int .i64 (fn:Int),.int .i64 (tn:Int),.string d] 56):=KY8.out.on hb9 KY8.out.lt
    have DY9:Hid (Below w.heap.size w Y9):=DY8.out.trans (hb9.mono DY8.out.size)
    clear hb9
    go_wp2_with fail
    refine hK.out _ _ (fun _ _=>⟨KY9.out.cell 0 _ rfl,KY9.out.cell 1 _ rfl,KY9.out.cell 2 _ rfl,KY9.out.cell 3 _ rfl,KY9.out.cell 4 _ rfl⟩) ?_
    clear hK K
    try simp only[Act.put,zQ1,zQ2,zQ3]
    refine pUf 20 ?_
    refine pUf 23 ?_
    refine pUf 24 ?_
    refine until_done (by kernel_rfl) ?_ _
    go_wp2_with fail
    go_ret
    exact ⟨by rw[HE.out];rfl,DY9.out⟩
   ·go_simp
    refine (cA _).mono ?_
    rintro e Y10 ⟨rfl,hb10⟩
    have KY10:Hid (Blk Y10 w.heap.size #[.int .i64 (kn:Int),.string key,.int .i64 (fn:Int),.int .i64 (tn:Int),.string d] 56):=KY6.out.on hb10 KY6.out.lt
    have DY10:Hid (Below w.heap.size w Y10):=DY6.out.trans (hb10.mono DY6.out.size)
    have G10:Hid (Blk Y10 gb1 #[.int .u8 (kn:Int)] 5):=G6.out.on hb10 G6.out.lt
    clear hb10
    go_wp2_with fail
    refine hK.out _ _ (fun _ _=>⟨KY10.out.cell 0 _ rfl,KY10.out.cell 1 _ rfl,KY10.out.cell 2 _ rfl,KY10.out.cell 3 _ rfl,KY10.out.cell 4 _ rfl⟩) ?_
    clear hK K
    try simp only[Act.put,zQ1,zQ2,zQ3]
    refine until_two 4 19 (by rfl) (by rfl) (by kernel_rfl) (fun K hK=>?_) (fun K hK=>?_)
    ·have hcv:=cC gb1 Y10 (G10.out.cell 0 _ rfl)
     go_simp
     clear hcv
     refine hK.out _ _ (fun _ h=>h) ?_
     clear hK K
     try simp only[Act.put,zQ1,zQ2,zQ3]
     refine pUf 9 ?_
     refine pUf 12 ?_
     refine pUf 16 ?_
     refine uNe 19 (fun K hK=>?_)
     go_simp
     refine (cB _).mono ?_
     rintro e Y12 ⟨rfl,hb12⟩
     have KY12:Hid (Blk Y12 w.heap.size #[.int .i64 (kn:Int),.string key,.int .i64 (fn:Int),.int .i64 (tn:Int),.string d] 56):=KY10.out.on hb12 KY10.out.lt
     have DY12:Hid (Below w.heap.size w Y12):=DY10.out.trans (hb12.mono DY10.out.size)
     clear hb12
     go_wp2_with fail
     refine hK.out _ _ (fun _ _=>⟨KY12.out.cell 0 _ rfl,KY12.out.cell 1 _ rfl,KY12.out.cell 2 _ rfl,KY12.out.cell 3 _ rfl,KY12.out.cell 4 _ rfl⟩) ?_
     clear hK K
     try simp only[Act.put,zQ1,zQ2,zQ3]
     refine pUf 20 ?_
     refine pUf 23 ?_
     refine pUf 24 ?_
     refine until_done (by kernel_rfl) ?_ _
     go_wp2_with fail
     go_ret
     exact ⟨by rw[HE.out];rfl,DY12.out⟩
    ·go_simp
     refine (cB _).mono ?_
     rintro e Y13 ⟨rfl,hb13⟩
     have KY13:Hid (Blk Y13 w.heap.size #[.int .i64 (kn:Int),.string key,.int .i64 (fn:Int),.int .i64 (tn:Int),.string d] 56):=KY10.out.on hb13 KY10.out.lt
     have DY13:Hid (Below w.heap.size w Y13):=DY10.out.trans (hb13.mono DY10.out.size)
     have G13:Hid (Blk Y13 gb1 #[.int .u8 (kn:Int)] 5):=G10.out.on hb13 G10.out.lt
     clear hb13
     go_wp2_with fail
     refine hK.out _ _ (fun _ _=>⟨KY13.out.cell 0 _ rfl,KY13.out.cell 1 _ rfl,KY13.out.cell 2 _ rfl,KY13.out.cell 3 _ rfl,KY13.out.cell 4 _ rfl⟩) ?_
     clear hK K
     try simp only[Act.put,zQ1,zQ2,zQ3]
     refine uNe 4 (fun K hK=>?_)
     have hcv:=cC gb1 Y13 (G13.out.cell 0 _ rfl)
     go_simp
     clear hcv
     refine hK.out _ _ (fun _ h=>h) ?_
     clear hK K
     try simp only[Act.put,zQ1,zQ2,zQ3]
     refine pUf 9 ?_
     refine pUf 12 ?_
     refine pUf 16 ?_
     refine pUf 20 ?_
     refine pUf 23 ?_
     refine pUf 24 ?_
     refine until_done (by kernel_rfl) ?_ _
     go_wp2_with fail
     go_ret
     exact ⟨by rw[HE.out];rfl,DY13.out⟩
 ·go_simp
  refine (cN _).mono ?_
  rintro e Y15 ⟨rfl,hb15⟩
  have KY15:Hid (Blk Y15 w.heap.size #[.int .i64 (kn:Int),.string key,.int .i64 (fn:Int),.int .i64 (tn:Int),.string d] 56):=K0.out.on hb15 K0.out.lt
  have DY15:Hid (Below w.heap.size w Y15):=D0.out.trans (hb15.mono D0.out.size)
  clear hb15
  go_wp2_with fail
  refine hK.out _ _ (fun _ _=>⟨KY15.out.cell 0 _ rfl,KY15.out.cell 1 _ rfl,KY15.out.cell 2 _ rfl,KY15.out.cell 3 _ rfl,KY15.out.cell 4 _ rfl⟩) ?_
  clear hK K
  try simp only[Act.put,zQ1,zQ2,zQ3]
  refine until_two 3 15 (by rfl) (by rfl) (by kernel_rfl) (fun K hK=>?_) (fun K hK=>?_)
  ·go_simp
   have G16:Hid (Blk (Y15.alloc (.cells #[.int .u8 (kn:Int)] 5)) Y15.heap.size #[.int .u8 (kn:Int)] 5):=Blk.new _ _ _
   have KY16:Hid (Blk (Y15.alloc (.cells #[.int .u8 (kn:Int)] 5)) w.heap.size #[.int .i64 (kn:Int),.string key,.int .i64 (fn:Int),.int .i64 (tn:Int),.string d] 56):=KY15.out.alloc _
   have DY16:Hid (Below w.heap.size w (Y15.alloc (.cells #[.int .u8 (kn:Int)] 5))):=DY15.out.alloc DY15.out.size _
   refine hK.out _ _ (fun _ _=>⟨KY16.out.cell 0 _ rfl,KY16.out.cell 1 _ rfl,KY16.out.cell 2 _ rfl,KY16.out.cell 3 _ rfl,KY16.out.cell 4 _ rfl⟩) ?_
   clear hK K
   generalize hg16:Y15.heap.size=gb16 at *
   generalize Y15.alloc (.cells #[.int .u8 (kn:Int)] 5)=Y16 at *
   try simp only[Act.put,zQ1,zQ2,zQ3]
   refine until_two 4 15 (by rfl) (by rfl) (by kernel_rfl) (fun K hK=>?_) (fun K hK=>?_)
   ·have hcv:=cC gb16 Y16 (G16.out.cell 0 _ rfl)
    go_simp
    clear hcv
    refine hK.out _ _ (fun _ h=>h) ?_
    clear hK K
    try simp only[Act.put,zQ1,zQ2,zQ3]
    refine pUf 9 ?_
    refine pUf 12 ?_
    refine uNe 15 (fun K hK=>?_)
    go_simp
    refine (cA _).mono ?_
    rintro e Y18 ⟨rfl,hb18⟩
    have KY18:Hid (Blk Y18 w.heap.size #[.int .i64 (kn:Int),.string key,.int .i64 (fn:Int),.int .i64 (tn:Int),.string d] 56):=KY16.out.on hb18 KY16.out.lt
    have DY18:Hid (Below w.heap.size w Y18):=DY16.out.trans (hb18.mono DY16.out.size)
    clear hb18
    go_wp2_with fail
    refine hK.out _ _ (fun _ _=>⟨KY18.out.cell 0 _ rfl,KY18.out.cell 1 _ rfl,KY18.out.cell 2 _ rfl,KY18.out.cell 3 _ rfl,KY18.out.cell 4 _ rfl⟩) ?_
    clear hK K
    try simp only[Act.put,zQ1,zQ2,zQ3]
    refine pUf 16 ?_
    refine uNe 19 (fun K hK=>?_)
    go_simp
    refine (cB _).mono ?_
    rintro e Y19 ⟨rfl,hb19⟩
    have KY19:Hid (Blk Y19 w.heap.size #[.int .i64 (kn:Int),.string key,.int .i64 (fn:Int),.int .i64 (tn:Int),.string d] 56):=KY18.out.on hb19 KY18.out.lt
    have DY19:Hid (Below w.heap.size w Y19):=DY18.out.trans (hb19.mono DY18.out.size)
    clear hb19
    go_wp2_with fail
    refine hK.out _ _ (fun _ _=>⟨KY19.out.cell 0 _ rfl,KY19.out.cell 1 _ rfl,KY19.out.cell 2 _ rfl,KY19.out.cell 3 _ rfl,KY19.out.cell 4 _ rfl⟩) ?_
    clear hK K
    try simp only[Act.put,zQ1,zQ2,zQ3]
    refine pUf 20 ?_
    refine pUf 23 ?_
    refine pUf 24 ?_
    refine until_done (by kernel_rfl) ?_ _
    go_wp2_with fail
    go_ret
    exact ⟨by rw[HE.out];rfl,DY19.out⟩
   ·go_simp
    refine (cA _).mono ?_
    rintro e Y20 ⟨rfl,hb20⟩
    have KY20:Hid (Blk Y20 w.heap.size #[.int .i64 (kn:Int),.string key,.int .i64 (fn:Int),.int .i64 (tn:Int),.string d] 56):=KY16.out.on hb20 KY16.out.lt
    have DY20:Hid (Below w.heap.size w Y20):=DY16.out.trans (hb20.mono DY16.out.size)
    have G20:Hid (Blk Y20 gb16 #[.int .u8 (kn:Int)] 5):=G16.out.on hb20 G16.out.lt
    clear hb20
    go_wp2_with fail
    refine hK.out _ _ (fun _ _=>⟨KY20.out.cell 0 _ rfl,KY20.out.cell 1 _ rfl,KY20.out.cell 2 _ rfl,KY20.out.cell 3 _ rfl,KY20.out.cell 4 _ rfl⟩) ?_
    clear hK K
    try simp only[Act.put,zQ1,zQ2,zQ3]
    refine until_two 4 19 (by rfl) (by rfl) (by kernel_rfl) (fun K hK=>?_) (fun K hK=>?_)
    ·have hcv:=cC gb16 Y20 (G20.out.cell 0 _ rfl)
     go_simp
     clear hcv
     refine hK.out _ _ (fun _ h=>h) ?_
     clear hK K
     try simp only[Act.put,zQ1,zQ2,zQ3]
     refine pUf 9 ?_
     refine pUf 12 ?_
     refine pUf 16 ?_
     refine uNe 19 (fun K hK=>?_)
     go_simp
     refine (cB _).mono ?_
     rintro e Y22 ⟨rfl,hb22⟩
     have KY22:Hid (Blk Y22 w.heap.size #[.int .i64 (kn:Int),.string key,.int .i64 (fn:Int),.int .i64 (tn:Int),.string d] 56):=KY20.out.on hb22 KY20.out.lt
     have DY22:Hid (Below w.heap.size w Y22):=DY20.out.trans (hb22.mono DY20.out.size)
     clear hb22
     go_wp2_with fail
     refine hK.out _ _ (fun _ _=>⟨KY22.out.cell 0 _ rfl,KY22.out.cell 1 _ rfl,KY22.out.cell 2 _ rfl,KY22.out.cell 3 _ rfl,KY22.out.cell 4 _ rfl⟩) ?_
     clear hK K
     try simp only[Act.put,zQ1,zQ2,zQ3]
     refine pUf 20 ?_
     refine pUf 23 ?_
     refine pUf 24 ?_
     refine until_done (by kernel_rfl) ?_ _
     go_wp2_with fail
     go_ret
     exact ⟨by rw[HE.out];rfl,DY22.out⟩
    ·go_simp
     refine (cB _).mono ?_
     rintro e Y23 ⟨rfl,hb23⟩
     have KY23:Hid (Blk Y23 w.heap.size #[.int .i64 (kn:Int),.string key,.int .i64 (fn:Int),.int .i64 (tn:Int),.string d] 56):=KY20.out.on hb23 KY20.out.lt
     have DY23:Hid (Below w.heap.size w Y23):=DY20.out.trans (hb23.mono DY20.out.size)
     have G23:Hid (Blk Y23 gb16 #[.int .u8 (kn:Int)] 5):=G20.out.on hb23 G20.out.lt
     clear hb23
     go_wp2_with fail
     refine hK.out _ _ (fun _ _=>⟨KY23.out.cell 0 _ rfl,KY23.out.cell 1 _ rfl,KY23.out.cell 2 _ rfl,KY23.out.cell 3 _ rfl,KY23.out.cell 4 _ rfl⟩) ?_
     clear hK K
     try simp only[Act.put,zQ1,zQ2,zQ3]
     refine uNe 4 (fun K hK=>?_)
     have hcv:=cC gb16 Y23 (G23.out.cell 0 _ rfl)
     go_simp
     clear hcv
     refine hK.out _ _ (fun _ h=>h) ?_
     clear hK K
     try simp only[Act.put,zQ1,zQ2,zQ3]
     refine pUf 9 ?_
     refine pUf 12 ?_
     refine pUf 16 ?_
     refine pUf 20 ?_
     refine pUf 23 ?_
     refine pUf 24 ?_
     refine until_done (by kernel_rfl) ?_ _
     go_wp2_with fail
     go_ret
     exact ⟨by rw[HE.out];rfl,DY23.out⟩
  ·go_simp
   refine (cA _).mono ?_
   rintro e Y25 ⟨rfl,hb25⟩
   have KY25:Hid (Blk Y25 w.heap.size #[.int .i64 (kn:Int),.string key,.int .i64 (fn:Int),.int .i64 (tn:Int),.string d] 56):=KY15.out.on hb25 KY15.out.lt
   have DY25:Hid (Below w.heap.size w Y25):=DY15.out.trans (hb25.mono DY15.out.size)
   clear hb25
   go_wp2_with fail
   refine hK.out _ _ (fun _ _=>⟨KY25.out.cell 0 _ rfl,KY25.out.cell 1 _ rfl,KY25.out.cell 2 _ rfl,KY25.out.cell 3 _ rfl,KY25.out.cell 4 _ rfl⟩) ?_
   clear hK K
   try simp only[Act.put,zQ1,zQ2,zQ3]
   refine until_two 3 19 (by rfl) (by rfl) (by kernel_rfl) (fun K hK=>?_) (fun K hK=>?_)
   ·go_simp
    have G26:Hid (Blk (Y25.alloc (.cells #[.int .u8 (kn:Int)] 5)) Y25.heap.size #[.int .u8 (kn:Int)] 5):=Blk.new _ _ _
    have KY26:Hid (Blk (Y25.alloc (.cells #[.int .u8 (kn:Int)] 5)) w.heap.size #[.int .i64 (kn:Int),.string key,.int .i64 (fn:Int),.int .i64 (tn:Int),.string d] 56):=KY25.out.alloc _
    have DY26:Hid (Below w.heap.size w (Y25.alloc (.cells #[.int .u8 (kn:Int)] 5))):=DY25.out.alloc DY25.out.size _
    refine hK.out _ _ (fun _ _=>⟨KY26.out.cell 0 _ rfl,KY26.out.cell 1 _ rfl,KY26.out.cell 2 _ rfl,KY26.out.cell 3 _ rfl,KY26.out.cell 4 _ rfl⟩) ?_
    clear hK K
    generalize hg26:Y25.heap.size=gb26 at *
    generalize Y25.alloc (.cells #[.int .u8 (kn:Int)] 5)=Y26 at *
    try simp only[Act.put,zQ1,zQ2,zQ3]
    refine until_two 4 19 (by rfl) (by rfl) (by kernel_rfl) (fun K hK=>?_) (fun K hK=>?_)
    ·have hcv:=cC gb26 Y26 (G26.out.cell 0 _ rfl)
     go_simp
     clear hcv
     refine hK.out _ _ (fun _ h=>h) ?_
     clear hK K
     try simp only[Act.put,zQ1,zQ2,zQ3]
     refine pUf 9 ?_
     refine pUf 12 ?_
     refine pUf 16 ?_
     refine uNe 19 (fun K hK=>?_)
     go_simp
     refine (cB _).mono ?_
     rintro e Y28 ⟨rfl,hb28⟩
     have KY28:Hid (Blk Y28 w.heap.size #[.int .i64 (kn:Int),.string key,.int .i64 (fn:Int),.int .i64 (tn:Int),.string d] 56):=KY26.out.on hb28 KY26.out.lt
     have DY28:Hid (Below w.heap.size w Y28):=DY26.out.trans (hb28.mono DY26.out.size)
     clear hb28
     go_wp2_with fail
     refine hK.out _ _ (fun _ _=>⟨KY28.out.cell 0 _ rfl,KY28.out.cell 1 _ rfl,KY28.out.cell 2 _ rfl,KY28.out.cell 3 _ rfl,KY28.out.cell 4 _ rfl⟩) ?_
     clear hK K
     try simp only[Act.put,zQ1,zQ2,zQ3]
     refine pUf 20 ?_
     refine pUf 23 ?_
     refine pUf 24 ?_
     refine until_done (by kernel_rfl) ?_ _
     go_wp2_with fail
     go_ret
     exact ⟨by rw[HE.out];rfl,DY28.out⟩
    ·go_simp
     refine (cB _).mono ?_
     rintro e Y29 ⟨rfl,hb29⟩
     have KY29:Hid (Blk Y29 w.heap.size #[.int .i64 (kn:Int),.string key,.int .i64 (fn:Int),.int .i64 (tn:Int),.string d] 56):=KY26.out.on hb29 KY26.out.lt
     have DY29:Hid (Below w.heap.size w Y29):=DY26.out.trans (hb29.mono DY26.out.size)
     have G29:Hid (Blk Y29 gb26 #[.int .u8 (kn:Int)] 5):=G26.out.on hb29 G26.out.lt
     clear hb29
     go_wp2_with fail
     refine hK.out _ _ (fun _ _=>⟨KY29.out.cell 0 _ rfl,KY29.out.cell 1 _ rfl,KY29.out.cell 2 _ rfl,KY29.out.cell 3 _ rfl,KY29.out.cell 4 _ rfl⟩) ?_
     clear hK K
     try simp only[Act.put,zQ1,zQ2,zQ3]
     refine uNe 4 (fun K hK=>?_)
     have hcv:=cC gb26 Y29 (G29.out.cell 0 _ rfl)
     go_simp
     clear hcv
     refine hK.out _ _ (fun _ h=>h) ?_
     clear hK K
     try simp only[Act.put,zQ1,zQ2,zQ3]
     refine pUf 9 ?_
     refine pUf 12 ?_
     refine pUf 16 ?_
     refine pUf 20 ?_
     refine pUf 23 ?_
     refine pUf 24 ?_
     refine until_done (by kernel_rfl) ?_ _
     go_wp2_with fail
     go_ret
     exact ⟨by rw[HE.out];rfl,DY29.out⟩
   ·go_simp
    refine (cB _).mono ?_
    rintro e Y31 ⟨rfl,hb31⟩
    have KY31:Hid (Blk Y31 w.heap.size #[.int .i64 (kn:Int),.string key,.int .i64 (fn:Int),.int .i64 (tn:Int),.string d] 56):=KY25.out.on hb31 KY25.out.lt
    have DY31:Hid (Below w.heap.size w Y31):=DY25.out.trans (hb31.mono DY25.out.size)
    clear hb31
    go_wp2_with fail
    refine hK.out _ _ (fun _ _=>⟨KY31.out.cell 0 _ rfl,KY31.out.cell 1 _ rfl,KY31.out.cell 2 _ rfl,KY31.out.cell 3 _ rfl,KY31.out.cell 4 _ rfl⟩) ?_
    clear hK K
    try simp only[Act.put,zQ1,zQ2,zQ3]
    refine uNe 3 (fun K hK=>?_)
    go_simp
    have G32:Hid (Blk (Y31.alloc (.cells #[.int .u8 (kn:Int)] 5)) Y31.heap.size #[.int .u8 (kn:Int)] 5):=Blk.new _ _ _
    have KY32:Hid (Blk (Y31.alloc (.cells #[.int .u8 (kn:Int)] 5)) w.heap.size #[.int .i64 (kn:Int),.string key,.int .i64 (fn:Int),.int .i64 (tn:Int),.string d] 56):=KY31.out.alloc _
    have DY32:Hid (Below w.heap.size w (Y31.alloc (.cells #[.int .u8 (kn:Int)] 5))):=DY31.out.alloc DY31.out.size _
    refine hK.out _ _ (fun _ _=>⟨KY32.out.cell 0 _ rfl,KY32.out.cell 1 _ rfl,KY32.out.cell 2 _ rfl,KY32.out.cell 3 _ rfl,KY32.out.cell 4 _ rfl⟩) ?_
    clear hK K
    generalize hg32:Y31.heap.size=gb32 at *
    generalize Y31.alloc (.cells #[.int .u8 (kn:Int)] 5)=Y32 at *
    try simp only[Act.put,zQ1,zQ2,zQ3]
    refine uNe 4 (fun K hK=>?_)
    have hcv:=cC gb32 Y32 (G32.out.cell 0 _ rfl)
    go_simp
    clear hcv
    refine hK.out _ _ (fun _ h=>h) ?_
    clear hK K
    try simp only[Act.put,zQ1,zQ2,zQ3]
    refine pUf 9 ?_
    refine pUf 12 ?_
    refine pUf 16 ?_
    refine pUf 20 ?_
    refine pUf 23 ?_
    refine pUf 24 ?_
    refine until_done (by kernel_rfl) ?_ _
    go_wp2_with fail
    go_ret
    exact ⟨by rw[HE.out];rfl,DY32.out⟩
end Go.Proofs.YtedmdilabbolaaaGreatDoor
namespace Go.Proofs.YtedmdilabbolaaaGreatDoor
open Go.ChangeShapes Go.WideShapes Go.ChangeAt Go.RowKit Go.PlainAid
set_option linter.unusedVariables false
theorem srvR (a:Int) (w:World):Calls Tryz.prog 45 #[.int .i64 a] w fun e w'=>e=.returned (.bool (srvB a))∧w=w':=by
 have c1:=inS a 0 4
 have HE:Hid (srvB a=inRg a 0 4):=rfl
 generalize srvB a=s at *
 generalize inRg a 0 4=b at *
 go_enter Tryz.func45,Tryz.ntmps45
 go_wp2_with fail
 refine (c1 _).mono ?_
 rintro e w' ⟨rfl,rfl⟩
 go_wp2_with fail
 go_ret
 exact ⟨by rw[HE.out];rfl,rfl⟩
set_option maxRecDepth 20000 in
set_option maxHeartbeats 8000000 in
theorem specRouterSay (x:Rtr) (d:Int) (v:Value) (w:World) (B:Nat) (hv:RtrV w B v x) (hB:B≤w.heap.size) (hk:x.call.key.size≤maxLen) (hd:x.call.data.size≤1048576) (hn:x.sers.length≤1048576) (hl:x.legs.length≤1048576) (ht:x.todo.length≤1048576) (hlx:∀ y∈x.legs,y.key.size≤maxLen∧y.data.size≤1048576∧y.told.size≤maxLen) (htx:∀ y∈x.todo,y.key.size≤maxLen∧y.data.size≤1048576) :
  Calls Tryz.prog 11 #[v,.int .i64 d] w fun e w'=>e=.returned (.tuple #[.int .i64 (sayG x d),vMg (sayM x d) (.slice none 0 0),.bool (sayB x d)])∧Below w.heap.size w w':=by
 have HVV:=Hid.mkQ hv
 obtain ⟨us,ul,ut,rfl,h1,h2,h3⟩:=hv
 obtain ⟨U,cu,rfl,hcu,-,hu⟩:=h1
 obtain ⟨L,cl,rfl,hl1⟩:=lgx_look h2
 obtain ⟨T,ct,rfl,ht1⟩:=tdo_look h3
 have HU:=Hid.mkQ hu
 have HTD:=Hid.mkQ ht1
 have HTX:=Hid.mkQ htx
 have HBB:=Hid.mkQ hB
 have qs:(x.sers.length:Int)≤1048576:=by omega
 have qt:(x.todo.length:Int)≤1048576:=by omega
 have HSB:Hid (sayB x d=(rtOk x&&x.busy&&srvB d)):=rfl
 unfold vRtr
 obtain ⟨X,hX⟩:∃ X,X=(w.alloc (.cells #[.int .i64 x.id,.slice U x.sers.length cu,.bool x.busy,.int .i64 x.call.kind,.string x.call.key,.int .i64 x.call.frm,.int .i64 x.call.til,.string x.call.data,.int .i64 x.begun,.slice L x.legs.length cl,.slice T x.todo.length ct] 35)).alloc (.cells #[.int .i64 0,.int .i64 0,.int .i64 0,.int .i64 0,.int .i64 0,.int .i64 0,.int .i64 0,.bool false,.slice none 0 0,.string ⟨#[]⟩] 41):=⟨_,rfl⟩
 have BX:Hid (Below w.heap.size w X):=by unfold Hid;rw[hX];exact below_t2 w _ _
 have KX:Hid (Blk X w.heap.size #[.int .i64 x.id,.slice U x.sers.length cu,.bool x.busy,.int .i64 x.call.kind,.string x.call.key,.int .i64 x.call.frm,.int .i64 x.call.til,.string x.call.data,.int .i64 x.begun,.slice L x.legs.length cl,.slice T x.todo.length ct] 35):=by unfold Hid;rw[hX];exact (Blk.new w _ _).alloc _
 have RX:Hid (Blk X (w.heap.size+1) #[.int .i64 0,.int .i64 0,.int .i64 0,.int .i64 0,.int .i64 0,.int .i64 0,.int .i64 0,.bool false,.slice none 0 0,.string ⟨#[]⟩] 41):=by unfold Hid;rw[hX];have:=Blk.new (w.alloc (.cells #[.int .i64 x.id,.slice U x.sers.length cu,.bool x.busy,.int .i64 x.call.kind,.string x.call.key,.int .i64 x.call.frm,.int .i64 x.call.til,.string x.call.data,.int .i64 x.begun,.slice L x.legs.length cl,.slice T x.todo.length ct] 35)) #[.int .i64 0,.int .i64 0,.int .i64 0,.int .i64 0,.int .i64 0,.int .i64 0,.int .i64 0,.bool false,.slice none 0 0,.string ⟨#[]⟩] 41;rw[World.size_alloc] at this;exact this
 have cO:=specRouterOk x _ X B (HVV.out.on (BX.out.mono HBB.out)) (Nat.le_trans HBB.out BX.out.size) hk hd hn hl ht hlx htx
 unfold vRtr at cO
 clear hu hl1 ht1 hlx htx hB h2 h3 hcu hk hd hn hl ht
 obtain ⟨k0,k1,k2,k3,k4,k5,k6,k7,k8,k9,k10⟩:X.cell? ⟨w.heap.size,0,none⟩=some (.int .i64 x.id)∧X.cell? ⟨w.heap.size,1,none⟩=some (.slice U x.sers.length cu)∧X.cell? ⟨w.heap.size,2,none⟩=some (.bool x.busy)∧X.cell? ⟨w.heap.size,3,none⟩=some (.int .i64 x.call.kind)∧X.cell? ⟨w.heap.size,4,none⟩=some (.string x.call.key)∧X.cell? ⟨w.heap.size,5,none⟩=some (.int .i64 x.call.frm)∧X.cell? ⟨w.heap.size,6,none⟩=some (.int .i64 x.call.til)∧X.cell? ⟨w.heap.size,7,none⟩=some (.string x.call.data)∧X.cell? ⟨w.heap.size,8,none⟩=some (.int .i64 x.begun)∧X.cell? ⟨w.heap.size,9,none⟩=some (.slice L x.legs.length cl)∧X.cell? ⟨w.heap.size,10,none⟩=some (.slice T x.todo.length ct):=⟨KX.out.cell 0 _ rfl,KX.out.cell 1 _ rfl,KX.out.cell 2 _ rfl,KX.out.cell 3 _ rfl,KX.out.cell 4 _ rfl,KX.out.cell 5 _ rfl,KX.out.cell 6 _ rfl,KX.out.cell 7 _ rfl,KX.out.cell 8 _ rfl,KX.out.cell 9 _ rfl,KX.out.cell 10 _ rfl⟩
 rw[hX] at k0 k1 k2 k3 k4 k5 k6 k7 k8 k9 k10
 go_enter Tryz.func11,Tryz.ntmps11
 go_wp2_with fail
 rw[← hX]
 rw[← hX] at k0 k1 k2 k3 k4 k5 k6 k7 k8 k9 k10
 clear hX
 refine cO.mono ?_
 rintro e w1 ⟨rfl,hb⟩
 have B1:Hid (Below w.heap.size w w1):=BX.out.trans (hb.mono BX.out.size)
 have K1:=Hid.mkQ (KX.out.on hb KX.out.lt)
 have R1:=Hid.mkQ (RX.out.on hb RX.out.lt)
 clear hb cO KX RX k0 k1 k2 k3 k4 k5 k6 k7 k8 k9 k10
 obtain ⟨m0,m1,m2,m3,m4,m5,m6,m7,m8,m9,m10⟩:w1.cell? ⟨w.heap.size,0,none⟩=some (.int .i64 x.id)∧w1.cell? ⟨w.heap.size,1,none⟩=some (.slice U x.sers.length cu)∧w1.cell? ⟨w.heap.size,2,none⟩=some (.bool x.busy)∧w1.cell? ⟨w.heap.size,3,none⟩=some (.int .i64 x.call.kind)∧w1.cell? ⟨w.heap.size,4,none⟩=some (.string x.call.key)∧w1.cell? ⟨w.heap.size,5,none⟩=some (.int .i64 x.call.frm)∧w1.cell? ⟨w.heap.size,6,none⟩=some (.int .i64 x.call.til)∧w1.cell? ⟨w.heap.size,7,none⟩=some (.string x.call.data)∧w1.cell? ⟨w.heap.size,8,none⟩=some (.int .i64 x.begun)∧w1.cell? ⟨w.heap.size,9,none⟩=some (.slice L x.legs.length cl)∧w1.cell? ⟨w.heap.size,10,none⟩=some (.slice T x.todo.length ct):=⟨K1.out.cell 0 _ rfl,K1.out.cell 1 _ rfl,K1.out.cell 2 _ rfl,K1.out.cell 3 _ rfl,K1.out.cell 4 _ rfl,K1.out.cell 5 _ rfl,K1.out.cell 6 _ rfl,K1.out.cell 7 _ rfl,K1.out.cell 8 _ rfl,K1.out.cell 9 _ rfl,K1.out.cell 10 _ rfl⟩
 cases hok:rtOk x
 ·rw[hok] at HSB
  have hsb:Hid (sayB x d=false):=HSB.out
  obtain ⟨⟨r0,g0⟩,⟨r1,g1⟩,⟨r2,g2⟩,⟨r3,g3⟩,⟨r4,g4⟩,⟨r5,g5⟩,⟨r6,g6⟩,⟨r7,g7⟩,⟨r8,g8⟩,⟨r9,g9⟩,z0,z1,z2,z3,z4,z5,z6,z7,z8,z9⟩:=resC10 (x0:=.int .i64 0) (x1:=.int .i64 0) (x2:=.int .i64 0) (x3:=.int .i64 0) (x4:=.int .i64 0) (x5:=.int .i64 0) (x6:=.int .i64 0) (x7:=.bool false) (x8:=.slice none 0 0) (x9:=.string ⟨#[]⟩) R1.out
  have FB:=Hid.mkQ (belowC10 B1.out (show w.heap.size≤w.heap.size+1 by omega) (.int .i64 0) (.int .i64 0) (.int .i64 0) (.int .i64 0) (.int .i64 0) (.int .i64 0) (.int .i64 0) (.bool false) (.slice none 0 0) (.string ⟨#[]⟩))
  go_wp2_with fail
  exact bodyPost_ret (v:=.tuple #[.int .i64 0,.agg #[.int .i64 0,.int .i64 0,.int .i64 0,.int .i64 0,.int .i64 0,.int .i64 0,.int .i64 0,.bool false,.slice none 0 0,.string ⟨#[]⟩],.bool false]) (by simp[results,go_sem,z0,z1,z2,z3,z4,z5,z6,z7,z8,z9]) rfl ⟨by rw[sayM_no hsb.out,sayG_no hsb.out,hsb.out];rfl,FB.out⟩
 cases hbz:x.busy
 ·rw[hok,hbz] at HSB
  rw[hbz] at m2
  have hsb:Hid (sayB x d=false):=HSB.out
  obtain ⟨⟨r0,g0⟩,⟨r1,g1⟩,⟨r2,g2⟩,⟨r3,g3⟩,⟨r4,g4⟩,⟨r5,g5⟩,⟨r6,g6⟩,⟨r7,g7⟩,⟨r8,g8⟩,⟨r9,g9⟩,z0,z1,z2,z3,z4,z5,z6,z7,z8,z9⟩:=resC10 (x0:=.int .i64 0) (x1:=.int .i64 0) (x2:=.int .i64 0) (x3:=.int .i64 0) (x4:=.int .i64 0) (x5:=.int .i64 0) (x6:=.int .i64 0) (x7:=.bool false) (x8:=.slice none 0 0) (x9:=.string ⟨#[]⟩) R1.out
  have FB:=Hid.mkQ (belowC10 B1.out (show w.heap.size≤w.heap.size+1 by omega) (.int .i64 0) (.int .i64 0) (.int .i64 0) (.int .i64 0) (.int .i64 0) (.int .i64 0) (.int .i64 0) (.bool false) (.slice none 0 0) (.string ⟨#[]⟩))
  go_wp2_with fail
  exact bodyPost_ret (v:=.tuple #[.int .i64 0,.agg #[.int .i64 0,.int .i64 0,.int .i64 0,.int .i64 0,.int .i64 0,.int .i64 0,.int .i64 0,.bool false,.slice none 0 0,.string ⟨#[]⟩],.bool false]) (by simp[results,go_sem,z0,z1,z2,z3,z4,z5,z6,z7,z8,z9]) rfl ⟨by rw[sayM_no hsb.out,sayG_no hsb.out,hsb.out];rfl,FB.out⟩
 rw[hbz] at m2
 have cS:=fun wx=>srvR d wx
 cases hsv:srvB d<;>rw[hsv] at cS
 ·rw[hok,hbz,hsv] at HSB
  have hsb:Hid (sayB x d=false):=HSB.out
  obtain ⟨⟨r0,g0⟩,⟨r1,g1⟩,⟨r2,g2⟩,⟨r3,g3⟩,⟨r4,g4⟩,⟨r5,g5⟩,⟨r6,g6⟩,⟨r7,g7⟩,⟨r8,g8⟩,⟨r9,g9⟩,z0,z1,z2,z3,z4,z5,z6,z7,z8,z9⟩:=resC10 (x0:=.int .i64 0) (x1:=.int .i64 0) (x2:=.int .i64 0) (x3:=.int .i64 0) (x4:=.int .i64 0) (x5:=.int .i64 0) (x6:=.int .i64 0) (x7:=.bool false) (x8:=.slice none 0 0) (x9:=.string ⟨#[]⟩) R1.out
  have FB:=Hid.mkQ (belowC10 B1.out (show w.heap.size≤w.heap.size+1 by omega) (.int .i64 0) (.int .i64 0) (.int .i64 0) (.int .i64 0) (.int .i64 0) (.int .i64 0) (.int .i64 0) (.bool false) (.slice none 0 0) (.string ⟨#[]⟩))
  go_wp2_with fail
  refine (cS _).mono ?_
  rintro e w' ⟨rfl,rfl⟩
  go_wp2_with fail
  exact bodyPost_ret (v:=.tuple #[.int .i64 0,.agg #[.int .i64 0,.int .i64 0,.int .i64 0,.int .i64 0,.int .i64 0,.int .i64 0,.int .i64 0,.bool false,.slice none 0 0,.string ⟨#[]⟩],.bool false]) (by simp[results,go_sem,z0,z1,z2,z3,z4,z5,z6,z7,z8,z9]) rfl ⟨by rw[sayM_no hsb.out,sayG_no hsb.out,hsb.out];rfl,FB.out⟩
 rw[hok,hbz,hsv] at HSB
 have hsb:sayB x d=true:=HSB.out
 have HM:=Hid.mkQ (sayM_yes hsb)
 have HG:=Hid.mkQ (sayG_yes hsb)
 have HB1:=Hid.mkQ hsb
 have HOK:=Hid.mkQ (rtOk_iff.1 hok)
 have HW:=Hid.mkQ (HOK.out.work hbz)
 rw[hbz] at K1
 clear hok hsb HSB
 have q4:(0:Int)<(x.todo.length:Int):=by have:=HW.out.one;omega
 have q4n:0<x.todo.length:=HW.out.one
 obtain ⟨g,off,rfl,hg2,c0,c1,c2,c3,c4,c5⟩:=HTD.out 0 HW.out.one
 rw[Nat.zero_mul,Nat.add_zero] at c0 c1 c2 c3 c4 c5
 have hm:x.todo.getD 0 default∈x.todo:=by
  rw[List.getD_eq_getElem?_getD,List.getElem?_eq_getElem HW.out.one]
  exact List.getElem_mem HW.out.one
 have hym:=HW.out.td _ hm
 have hyx:=HTX.out _ hm
 have HS3:=Hid.mkQ HOK.out.sn
 unfold fstT at HM HG
 generalize x.todo.getD 0 default=y at *
 obtain ⟨gn,hgn⟩:∃ gn:Nat,y.group=(gn:Int):=⟨y.group.toNat,by omega⟩
 have hgl:gn<x.sers.length:=by have:=HS3.out;omega
 obtain ⟨gu,ou,rfl,hgu,hcu⟩:=HU.out gn hgl
 have q7:(gn:Int)<(x.sers.length:Int):=by omega
 have HGN:Hid (y.group.toNat=gn):=by unfold Hid;omega
 rw[HGN.out] at HM
 rw[hgn] at c0
 rw[hgn] at HG
 generalize x.sers.getD gn 0=sv at *
 have qi:x.id≤4:=HOK.out.id.2
 have qi2:1≤x.id:=HOK.out.id.1
 have hw10:IntKind.i64.wrap (10+x.id)=10+x.id:=by rw[IntKind.wrap_i64];omega
 rw[← B1.out.cell (p:=⟨g,_,none⟩) (Nat.lt_of_lt_of_le hg2 HBB.out)] at c0
 rw[← B1.out.cell (p:=⟨g,_,none⟩) (Nat.lt_of_lt_of_le hg2 HBB.out)] at c1
 rw[← B1.out.cell (p:=⟨g,_,none⟩) (Nat.lt_of_lt_of_le hg2 HBB.out)] at c2
 rw[← B1.out.cell (p:=⟨g,_,none⟩) (Nat.lt_of_lt_of_le hg2 HBB.out)] at c3
 rw[← B1.out.cell (p:=⟨g,_,none⟩) (Nat.lt_of_lt_of_le hg2 HBB.out)] at c4
 rw[← B1.out.cell (p:=⟨g,_,none⟩) (Nat.lt_of_lt_of_le hg2 HBB.out)] at c5
 obtain ⟨Xt,hXt⟩:∃ Xt,Xt=w1.alloc (.cells #[.int .i64 (gn:Int),.int .i64 y.kind,.string y.key,.int .i64 y.frm,.int .i64 y.til,.string y.data] 67):=⟨_,rfl⟩
 have hbt:Below w1.heap.size w1 Xt:=by rw[hXt];exact below_a1 _ _
 have KT:Hid (Blk Xt w1.heap.size #[.int .i64 (gn:Int),.int .i64 y.kind,.string y.key,.int .i64 y.frm,.int .i64 y.til,.string y.data] 67):=by unfold Hid;rw[hXt];exact Blk.new w1 _ _
 have BT:=Hid.mkQ (B1.out.trans (hbt.mono B1.out.size))
 have hdr:=(Below.refl Xt.heap.size Xt).drew
 have BD:=Hid.mkQ (BT.out.trans (hdr.mono BT.out.size))
 have KD:Hid (Blk Xt.drew w.heap.size #[.int .i64 x.id,.slice (some ⟨gu,ou,none⟩) x.sers.length cu,.bool true,.int .i64 x.call.kind,.string x.call.key,.int .i64 x.call.frm,.int .i64 x.call.til,.string x.call.data,.int .i64 x.begun,.slice L x.legs.length cl,.slice (some ⟨g,off,none⟩) x.todo.length ct] 35):=(K1.out.on hbt K1.out.lt).on hdr (K1.out.on hbt K1.out.lt).lt
 have RD:Hid (Blk Xt.drew (w.heap.size+1) #[.int .i64 0,.int .i64 0,.int .i64 0,.int .i64 0,.int .i64 0,.int .i64 0,.int .i64 0,.bool false,.slice none 0 0,.string ⟨#[]⟩] 41):=(R1.out.on hbt R1.out.lt).on hdr (R1.out.on hbt R1.out.lt).lt
 have TD:=Hid.mkQ (KT.out.on hdr KT.out.lt)
 have HGU:=Hid.mkQ (Nat.lt_of_lt_of_le hgu HBB.out)
 have SF:Hid (∀ W,Below w.heap.size w W→Blk W w.heap.size #[.int .i64 x.id,.slice (some ⟨gu,ou,none⟩) x.sers.length cu,.bool true,.int .i64 x.call.kind,.string x.call.key,.int .i64 x.call.frm,.int .i64 x.call.til,.string x.call.data,.int .i64 x.begun,.slice L x.legs.length cl,.slice (some ⟨g,off,none⟩) x.todo.length ct] 35→Blk W w1.heap.size #[.int .i64 (gn:Int),.int .i64 y.kind,.string y.key,.int .i64 y.frm,.int .i64 y.til,.string y.data] 67→W.cell? ⟨w.heap.size,0,none⟩=some (.int .i64 x.id)∧W.cell? ⟨w.heap.size,1,none⟩=some (.slice (some ⟨gu,ou,none⟩) x.sers.length cu)∧W.cell? ⟨w1.heap.size,0,none⟩=some (.int .i64 (gn:Int))∧W.cell? ⟨w1.heap.size,1,none⟩=some (.int .i64 y.kind)∧W.cell? ⟨w1.heap.size,2,none⟩=some (.string y.key)∧W.cell? ⟨w1.heap.size,3,none⟩=some (.int .i64 y.frm)∧W.cell? ⟨w1.heap.size,4,none⟩=some (.int .i64 y.til)∧W.cell? ⟨w1.heap.size,5,none⟩=some (.string y.data)∧W.cell? ⟨gu,ou+gn,none⟩=some (.int .i64 sv)):=fun W hb hk ht=>⟨hk.cell 0 _ rfl,hk.cell 1 _ rfl,ht.cell 0 _ rfl,ht.cell 1 _ rfl,ht.cell 2 _ rfl,ht.cell 3 _ rfl,ht.cell 4 _ rfl,ht.cell 5 _ rfl,(hb.cell (p:=⟨gu,ou+gn,none⟩) HGU.out).trans hcu⟩
 have S0:=Hid.mkQ (SF.out _ BD.out KD.out TD.out)
 have cT:=specShowOp y.op Xt.drew hyx.1 hyx.2
 simp only[vOp,Tdo.op] at cT
 simp only[Tdo.op] at HM
 generalize opT ⟨y.kind,y.key,y.frm,y.til,y.data⟩=tx at *
 have HLT:Hid (w.heap.size+1<w1.heap.size):=R1.out.lt
 clear hym hyx hm hg2 hgu hbt hdr hcu
 go_wp2_with fail
 refine (cS _).mono ?_
 rintro e w' ⟨rfl,rfl⟩
 go_wp2_with fail
 rw[← hXt]
 clear hXt m0 m1 m2 m3 m4 m5 m6 m7 m8 m9 m10 c0 c1 c2 c3 c4 c5 cS KT K1 R1 B1 BT
 refine wp_region_until (fun w'=>w'.cell? ⟨w.heap.size,0,none⟩=some (.int .i64 x.id)∧w'.cell? ⟨w.heap.size,1,none⟩=some (.slice (some ⟨gu,ou,none⟩) x.sers.length cu)∧w'.cell? ⟨w1.heap.size,0,none⟩=some (.int .i64 (gn:Int))∧w'.cell? ⟨w1.heap.size,1,none⟩=some (.int .i64 y.kind)∧w'.cell? ⟨w1.heap.size,2,none⟩=some (.string y.key)∧w'.cell? ⟨w1.heap.size,3,none⟩=some (.int .i64 y.frm)∧w'.cell? ⟨w1.heap.size,4,none⟩=some (.int .i64 y.til)∧w'.cell? ⟨w1.heap.size,5,none⟩=some (.string y.data)∧w'.cell? ⟨gu,ou+gn,none⟩=some (.int .i64 sv)) (fun i=>false) 19 (by rfl) (by kernel_rfl) ?_
 refine pF 0 ?_
 refine tF 1 S0.out ?_
 refine pF 2 ?_
 refine tF 3 S0.out ?_
 refine pF 4 ?_
 refine pF 5 ?_
 refine pF 6 ?_
 refine tF 7 S0.out ?_
 refine pF 8 ?_
 refine tF 9 S0.out ?_
 refine pF 10 ?_
 refine tF 11 S0.out ?_
 refine pF 12 ?_
 refine tF 13 S0.out ?_
 refine uNe 14 (fun K hK=>?_)
 go_simp
 refine cT.mono ?_
 rintro e w5 ⟨rfl,hb⟩
 have B5:=Hid.mkQ (BD.out.trans (hb.mono BD.out.size))
 have K5:=Hid.mkQ (KD.out.on hb KD.out.lt)
 have T5:=Hid.mkQ (TD.out.on hb TD.out.lt)
 have R5:=Hid.mkQ (RD.out.on hb RD.out.lt)
 have S5:=Hid.mkQ (SF.out _ B5.out K5.out T5.out)
 clear hb cT
 go_wp2_with fail
 refine hK.out _ _ (fun _ _=>S5.out) ?_
 clear hK K
 try simp only[Act.put,zQ1,zQ2,zQ3]
 refine pF 15 ?_
 refine pF 16 ?_
 obtain ⟨⟨r0,g0⟩,⟨r1,g1⟩,⟨r2,g2⟩,⟨r3,g3⟩,⟨r4,g4⟩,⟨r5,g5⟩,⟨r6,g6⟩,⟨r7,g7⟩,⟨r8,g8⟩,⟨r9,g9⟩,z0,z1,z2,z3,z4,z5,z6,z7,z8,z9⟩:=resC10 (x0:=.int .i64 6) (x1:=.int .i64 (10+x.id)) (x2:=.int .i64 d) (x3:=.int .i64 0) (x4:=.int .i64 sv) (x5:=.int .i64 0) (x6:=.int .i64 0) (x7:=.bool false) (x8:=.slice none 0 0) (x9:=.string tx) R5.out
 have FB:=Hid.mkQ (belowC10 B5.out (show w.heap.size≤w.heap.size+1 by omega) (.int .i64 6) (.int .i64 (10+x.id)) (.int .i64 d) (.int .i64 0) (.int .i64 sv) (.int .i64 0) (.int .i64 0) (.bool false) (.slice none 0 0) (.string tx))
 refine uNe 17 (fun K hK=>?_)
 go_simp
 refine hK.out _ _ (fun _ _=>SF.out _ FB.out (otherR10 K5.out (by omega) (.int .i64 6) (.int .i64 (10+x.id)) (.int .i64 d) (.int .i64 0) (.int .i64 sv) (.int .i64 0) (.int .i64 0) (.bool false) (.slice none 0 0) (.string tx)) (otherR10 T5.out (by have:=HLT.out;omega) (.int .i64 6) (.int .i64 (10+x.id)) (.int .i64 d) (.int .i64 0) (.int .i64 sv) (.int .i64 0) (.int .i64 0) (.bool false) (.slice none 0 0) (.string tx))) ?_
 clear hK K
 try simp only[Act.put,zQ1,zQ2,zQ3]
 refine pF 18 ?_
 refine until_done (by kernel_rfl) ?_ _
 try go_wp2_with fail
 exact bodyPost_ret (v:=.tuple #[.int .i64 (gn:Int),.agg #[.int .i64 6,.int .i64 (10+x.id),.int .i64 d,.int .i64 0,.int .i64 sv,.int .i64 0,.int .i64 0,.bool false,.slice none 0 0,.string tx],.bool true]) (by simp[results,go_sem,z0,z1,z2,z3,z4,z5,z6,z7,z8,z9]) rfl ⟨by rw[HM.out,HG.out,HB1.out];rfl,FB.out⟩
end Go.Proofs.YtedmdilabbolaaaGreatDoor
