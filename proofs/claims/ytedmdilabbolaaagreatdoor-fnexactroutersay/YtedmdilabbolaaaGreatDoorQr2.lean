/- Fix Frame FrLaid AwAid OpAid RtRow NumV NumR BtZig BtAid BtRd BtRow -/
import Derived.Test.YtedmdilabbolaaaGreatDoorRows
import Derived.Test.YtedmdilabbolaaaGreatDoorQr0
import Derived.WalkKit
import Derived.ProofKit
import Derived.OpenShut
import Derived.Below
import Derived.Handy
import Derived.WalkLawsBesides
import Derived.Outline
import Derived.Deep.OwnRows
import Derived.WalkSmall
import Derived.ChangeVars
import Derived.LaidMore
import Derived.Lay
import Derived.RowKitTokens
import Derived.Stop.LaidErr
import Derived.Stop.LaidTwo
import Derived.BigQuiet
import Derived.Deep.QuietTactic
import Derived.Deep.Slices
import Derived.ChangeArms
import Derived.WalkSpells
import Derived.WalkMore
import Derived.Deep.RegionHeld3
import Derived.Deep.RegionLaw
import Derived.Deep.DrawnRows
import Derived.Test.YtedmdilabbolaaaGreatDoorQr1
open List (setIfInBounds_toArray set_cons_zero set_cons_succ)
namespace Go.Proofs.YtedmdilabbolaaaGreatDoor
open Go.ChangeShapes Go.WideShapes Go.ChangeAt Go.RowKit Go.PlainAid
set_option linter.unusedVariables false
theorem Tryz.info5:(Tryz.prog.info? 5).map (fun i=>(i.zero,i.size,i.bytes))=some (some (.int .u8 0),1,1):=by kernel_rfl
def fixed (n wd:Nat):ByteArray:=if n / 256 ^ wd=0 then txt (low n wd) else txt []
set_option maxHeartbeats 400000 in
theorem spec_fixed (n k0:Nat) (w:World) (h1:(n:Int)≤9223372036854775807) (h2:1≤k0) (h3:k0≤7) :
  Calls Tryz.prog 149 #[.int .i64 (n:Int),.int .i64 (k0:Int)] w fun e w'=>e=.returned (.string (fixed n k0))∧Below w.heap.size w w':=by
 have q1:(1:Int)≤(k0:Int):=by omega
 have q2:(k0:Int)≤7:=by omega
 go_enter Tryz.func149,Tryz.ntmps149
 go_wp2
 go_loopw [0,5,6] (fun v0 v5 v6 wr=>∃ k m:Nat,k≤k0∧v6=.int .i64 k∧v0=.int .i64 m∧(m:Int)≤9223372036854775807∧m=n / 256 ^ k∧v5=.string (txt (low n k))∧Below w.heap.size w wr) (fun _ _ i _=>k0 - (intOf i).toNat)
 case atStart=>exact ⟨0,n,by omega,rfl,rfl,h1,by simp,rfl,Below.refl _ _⟩
 case round =>
  obtain ⟨k,m,hk,rfl,rfl,hm,hmk,rfl,hb⟩:=hrel
  have HM:Hid (m=n / 256 ^ k):=hmk
  clear hmk
  by_cases hlt:k<k0
  ·have e1:((m:Int) % 256)=((m % 256:Nat):Int):=by omega
   have hc:∀ wx:World,(convert 48 9 (.slice (some ⟨wx.heap.size,0,none⟩) 1 1)).run Tryz.prog (wx.alloc (.cells #[.int .u8 ((m:Int) % 256)] 5))=.ok (.string (txt [byt m])) (wx.alloc (.cells #[.int .u8 ((m:Int) % 256)] 5)):=by
    intro wx;rw[e1];exact run_one_byte wx 48 9 5 Tryz.underlying48 Tryz.underlying5 Tryz.underlying9 m 1
   clear e1
   have hz1:(txt [byt m]).size=1:=rfl
   have hz2:(txt (low n k)).size=k:=by rw[txt_size,low_length]
   have hsum:(txt [byt m]).size+(txt (low n k)).size≤9223372036854775807:=by omega
   clear hz1 hz2
   have hd:=div_step n k
   have HD:Hid (n / 256 ^ (k+1)=n / 256 ^ k / 256):=hd
   clear hd
   go_wp2
   go_roundw
   case rel=>exact ⟨k+1,m / 256,by omega,by go_num,by go_num,by omega,by rw[HD.out,HM.out],by rw[txt_cat,HM.out];rfl,hb.alloc (by have:=hb.size;omega) _⟩
   case measure=>simp[intOf];omega
  ·have hkk:k=k0:=by omega
   by_cases hp:(0:Int)<(m:Int)
   ·go_wp2
    go_ret
    exact ⟨by rw[fixed,if_neg (by rw[← hkk,← HM.out];omega)];rfl,hb⟩
   ·go_wp2
    go_ret
    exact ⟨by rw[fixed,if_pos (by rw[← hkk,← HM.out];omega)];rfl,hb⟩
set_option maxHeartbeats 400000 in
theorem impl_fixed (n k0:Nat) (w:World) (h1:(n:Int)≤9223372036854775807) (h2:1≤k0) (h3:k0≤7) :
  Calls Tryz.prog 90 #[.int .i64 (n:Int),.int .i64 (k0:Int)] w fun e w'=>e=.returned (.string (fixed n k0))∧Below w.heap.size w w':=by
 have q1:(1:Int)≤(k0:Int):=by omega
 have q2:(k0:Int)≤7:=by omega
 have q3:(0:Int)≤(n:Int):=by omega
 have hs:=shr8 n k0
 by_cases hz:n / 256 ^ k0=0
 ·have hs0:((n:Int) / 2 ^ (8*k0) != 0)=false:=by rw[hs,hz];rfl
  clear hs
  have HZ:Hid (n / 256 ^ k0=0):=hz
  clear hz
  have hmk:=fun wx=>run_make_row' (P:=Tryz.prog) 48 5 (.int .u8 0) 1 Tryz.underlying48 Tryz.info5 rfl .i64 .i64 k0 (by omega) (by omega) wx
  go_enter Tryz.func90,Tryz.ntmps90
  go_wp2
  go_loopw [27] (fun v27 wr=>∃ k:Nat,k≤k0∧v27=.int .i64 k∧wr=w.alloc (.cells (fixRow n k0 k) 5)) (fun i _=>k0 - (intOf i).toNat)
  case atStart=>exact ⟨0,by omega,rfl,by rw[fixRow_zero n k0]⟩
  case round =>
   obtain ⟨k,hk,rfl,rfl⟩:=hrel
   by_cases hlt:k<k0
   ·have hat:=fixRow_at n k0 k hlt
    go_wp2
    go_roundw
    case rel=>exact ⟨k+1,by omega,by go_num,by rw[shr8_byte,fixRow_set n k0 k hlt]⟩
    case measure=>simp[intOf];omega
   ·have hkk:k=k0:=by omega
    subst hkk
    rw[fixRow_full]
    have hcv:=run_row (P:=Tryz.prog) w 48 9 5 Tryz.underlying48 Tryz.underlying5 Tryz.underlying9 (low n k) k
    rw[low_length] at hcv
    go_wp2
    go_ret
    exact ⟨by rw[fixed,if_pos HZ.out];rfl,(Below.refl _ _).alloc (Nat.le_refl _) _⟩
 ·have hs0:((n:Int) / 2 ^ (8*k0) != 0)=true:=by rw[hs];simp only[bne_iff_ne,ne_eq];omega
  clear hs
  have HZ:Hid (¬ n / 256 ^ k0=0):=hz
  clear hz
  go_enter Tryz.func90,Tryz.ntmps90
  go_wp2
  go_ret
  exact ⟨by rw[fixed,if_neg HZ.out];rfl,Below.refl _ _⟩
set_option maxHeartbeats 400000 in
theorem spec_readFixed (s:ByteArray) (k0:Nat) (w:World) (hs:s.size≤maxLen) (h2:1≤k0) (h3:k0≤7) (h4:k0≤s.size) :
  Calls Tryz.prog 145 #[.string s,.int .i64 (k0:Int)] w fun e w'=>e=.returned (.tuple #[.int .i64 (rdv s k0),.bool true])∧w=w':=by
 unfold maxLen at hs
 have q1:(1:Int)≤(k0:Int):=by omega
 have q2:(k0:Int)≤7:=by omega
 have hbt:=get_bn s
 go_enter Tryz.func145,Tryz.ntmps145
 go_wp2
 go_loop [6,7] (fun v6 v7=>∃ k:Nat,k≤k0∧v7=.int .i64 k∧v6=.int .i64 (rdv s k)) (fun _ i=>k0 - (intOf i).toNat)
 case atStart=>exact ⟨0,by omega,rfl,rfl⟩
 case round =>
  obtain ⟨k,hk,rfl,rfl⟩:=hrel
  by_cases hlt:k<k0
  ·have r1:=rdv_le s k (by omega)
   have r2:=bn_lt s k
   go_wp2
   go_round
   case rel=>exact ⟨k+1,by omega,by go_num,by rw[rdv];go_num⟩
   case measure=>simp[intOf];omega
  ·have hkk:k=k0:=by omega
   subst hkk
   go_wp2
   go_ret2
   exact ⟨rfl,rfl⟩
set_option maxHeartbeats 400000 in
theorem impl_readFixed (s:ByteArray) (k0:Nat) (w:World) (hs:s.size≤maxLen) (h2:1≤k0) (h3:k0≤7) (h4:k0≤s.size) :
  Calls Tryz.prog 171 #[.string s,.int .i64 (k0:Int)] w fun e w'=>e=.returned (.tuple #[.int .i64 (rdv s k0),.bool true])∧w=w':=by
 unfold maxLen at hs
 have q1:(1:Int)≤(k0:Int):=by omega
 have q2:(k0:Int)≤7:=by omega
 have hbt:=get_bn s
 go_enter Tryz.func171,Tryz.ntmps171
 go_wp2
 go_loop [6,21] (fun v6 v7=>∃ k:Nat,k≤k0∧v7=.int .i64 k∧v6=.int .i64 (rdv s k)) (fun _ i=>k0 - (intOf i).toNat)
 case atStart=>exact ⟨0,by omega,rfl,rfl⟩
 case round =>
  obtain ⟨k,hk,rfl,rfl⟩:=hrel
  by_cases hlt:k<k0
  ·have r1:=rdv_le s k (by omega)
   have r2:=bn_lt s k
   have r3:=shl8_or s k (by omega)
   go_wp2
   go_round
   case rel=>exact ⟨k+1,by omega,by go_num,by go_num⟩
   case measure=>simp[intOf];omega
  ·have hkk:k=k0:=by omega
   subst hkk
   go_wp2
   go_ret2
   exact ⟨rfl,rfl⟩
set_option maxHeartbeats 400000 in
theorem spec_readFixed_no (s:ByteArray) (wd:Int) (w:World) (hs:s.size≤maxLen) (h:wd<1∨7<wd∨(s.size:Int)<wd) :
  Calls Tryz.prog 145 #[.string s,.int .i64 wd] w fun e w'=>e=.returned (.tuple #[.int .i64 0,.bool false])∧w=w':=by
 unfold maxLen at hs
 by_cases a1:wd<1
 ·go_enter Tryz.func145,Tryz.ntmps145
  go_wp2
  go_ret2
  exact ⟨rfl,rfl⟩
 ·by_cases a2:7<wd
  ·go_enter Tryz.func145,Tryz.ntmps145
   go_wp2
   go_ret2
   exact ⟨rfl,rfl⟩
  ·have a3:(s.size:Int)<wd:=by omega
   clear h
   go_enter Tryz.func145,Tryz.ntmps145
   go_wp2
   go_ret2
   exact ⟨rfl,rfl⟩
set_option maxHeartbeats 400000 in
theorem impl_readFixed_no (s:ByteArray) (wd:Int) (w:World) (hs:s.size≤maxLen) (h:wd<1∨7<wd∨(s.size:Int)<wd) :
  Calls Tryz.prog 171 #[.string s,.int .i64 wd] w fun e w'=>e=.returned (.tuple #[.int .i64 0,.bool false])∧w=w':=by
 unfold maxLen at hs
 by_cases a1:wd<1
 ·go_enter Tryz.func171,Tryz.ntmps171
  go_wp2
  go_ret2
  exact ⟨rfl,rfl⟩
 ·by_cases a2:7<wd
  ·go_enter Tryz.func171,Tryz.ntmps171
   go_wp2
   go_ret2
   exact ⟨rfl,rfl⟩
  ·have a3:(s.size:Int)<wd:=by omega
   clear h
   go_enter Tryz.func171,Tryz.ntmps171
   go_wp2
   go_ret2
   exact ⟨rfl,rfl⟩
end Go.Proofs.YtedmdilabbolaaaGreatDoor
namespace Go.Proofs.YtedmdilabbolaaaGreatDoor
open Go.ChangeShapes Go.WideShapes Go.ChangeAt Go.RowKit Go.PlainAid
set_option linter.unusedVariables false
theorem fixed_four (n:Nat) (h:n<4294967296):fixed n 4=four n:=by
 rw[fixed,if_pos (by omega)]
 rfl
theorem SumTab.lt {W:World} (h:SumTab W):3<W.heap.size:=by
 unfold SumTab Lib.TabIs World.var? at h
 simp only[gSum,Option.bind_some] at h
 by_cases hlt:3<W.heap.size
 ·exact hlt
 ·rw[Array.getElem?_eq_none (by omega)] at h
  simp at h
theorem SumTab.on {w w':World} (h:SumTab w) (hb:Below w.heap.size w w'):SumTab w':=h.below hb h.lt
set_option maxHeartbeats 400000 in
theorem impl_frameSum (a b:ByteArray) (w:World) (hs:a.size+b.size≤2097152) (ht:SumTab w) :
  Calls Tryz.prog 172 #[.string a,.string b] w fun e w'=>e=.returned (.string (sumOf a b))∧Below w.heap.size w w':=by
 have c1:=impl_crc (a++b) w (by rw[ByteArray.size_append];omega) ht
 have hl:=crc_lt (a++b)
 have c2:=impl_fixed (crc (a++b)) 4 w (by omega) (by omega) (by omega)
 rw[fixed_four _ hl] at c2
 have hsum:a.size+b.size≤9223372036854775807:=by omega
 clear ht hs hl
 go_enter Tryz.func172,Tryz.ntmps172
 go_wp2_with fail
 refine c1.mono ?_
 rintro e w1 ⟨rfl,rfl⟩
 go_wp2_with fail
 refine c2.mono ?_
 rintro e w1 ⟨rfl,hb1⟩
 go_wp2_with fail
 go_ret
 exact ⟨rfl,hb1⟩
set_option maxHeartbeats 400000 in
theorem impl_frame (b:ByteArray) (w:World) (hs:b.size≤1048576) (ht:SumTab w) :
  Calls Tryz.prog 168 #[.string b] w fun e w'=>e=.returned (.string (frame b))∧Below w.heap.size w w':=by
 by_cases h0:b.size=0
 ·obtain rfl:b=⟨#[]⟩:=by
   apply ByteArray.ext
   exact Array.eq_empty_of_size_eq_zero h0
  go_enter Tryz.func168,Tryz.ntmps168
  go_wp2_with fail
  go_ret
  exact ⟨by rw[frame,if_pos (.inl h0)];rfl,Below.refl _ _⟩
 ·have hbe:b.toList.isEmpty=false:=by
   rw[Lib.toList_data]
   rcases h:b.data.toList with _ | ⟨x,l⟩
   ·exact absurd (by rw[Lib.size_eq,h];rfl) h0
   ·rfl
  have hb2:¬ b.toList=[]:=fun h=>by rw[h] at hbe;cases hbe
  by_cases h2:2000<b.size
  ·have q:(2000:Int)<(b.size:Int):=by omega
   have q2:decide ((2000:Int)<(b.size:Int))=true:=decide_eq_true q
   go_enter Tryz.func168,Tryz.ntmps168
   go_wp2_with fail
   go_ret
   exact ⟨by rw[frame,if_pos (.inr h2)];rfl,Below.refl _ _⟩
  ·have q:(b.size:Int)≤2000:=by omega
   have q2:decide ((2000:Int)<(b.size:Int))=false:=decide_eq_false (by omega)
   have c1:=impl_fixed b.size 4 w (by omega) (by omega) (by omega)
   rw[fixed_four _ (by omega)] at c1
   have HT:Hid (SumTab w):=ht
   have HS:Hid ((four b.size).size+b.size≤2097152):=by unfold Hid;rw[four_size];omega
   have s1:(four b.size).size+(sumOf (four b.size) b).size≤9223372036854775807:=by rw[four_size,sumOf_size];omega
   have s2:(four b.size).size+(sumOf (four b.size) b).size+b.size≤9223372036854775807:=by rw[four_size,sumOf_size];omega
   have ef:Hid (frame b=four b.size++sumOf (four b.size) b++b):=by unfold Hid;rw[frame,if_neg (by omega),frameOf]
   clear ht
   go_enter Tryz.func168,Tryz.ntmps168
   go_wp2_with fail
   refine c1.mono ?_
   rintro e w1 ⟨rfl,hb1⟩
   have c2:=impl_frameSum (four b.size) b w1 HS.out (HT.out.on hb1)
   go_wp2_with fail
   refine c2.mono ?_
   rintro e w2 ⟨rfl,hb2⟩
   go_wp2_with fail
   go_ret
   exact ⟨by rw[ef.out];rfl,hb1.trans (hb2.mono hb1.size)⟩
set_option maxHeartbeats 400000 in
theorem spec_frame (b:ByteArray) (w:World) (hs:b.size≤1048576) :
  Calls Tryz.prog 130 #[.string b] w fun e w'=>e=.returned (.string (frame b))∧Below w.heap.size w w':=by
 by_cases h0:b.size=0
 ·have q:(b.size:Int)=0:=by omega
  go_enter Tryz.func130,Tryz.ntmps130
  go_wp2_with fail
  go_ret
  exact ⟨by rw[frame,if_pos (.inl h0)];rfl,Below.refl _ _⟩
 ·have q0:((b.size:Int) == 0)=false:=by simp only[beq_eq_false_iff_ne,ne_eq];omega
  have q1:¬ (b.size:Int)=0:=by omega
  by_cases h2:2000<b.size
  ·have q:(2000:Int)<(b.size:Int):=by omega
   have q2:decide ((2000:Int)<(b.size:Int))=true:=decide_eq_true q
   go_enter Tryz.func130,Tryz.ntmps130
   go_wp2_with fail
   go_ret
   exact ⟨by rw[frame,if_pos (.inr h2)];rfl,Below.refl _ _⟩
  ·have q:(b.size:Int)≤2000:=by omega
   have q2:decide ((2000:Int)<(b.size:Int))=false:=decide_eq_false (by omega)
   have c1:=spec_fixed b.size 4 w (by omega) (by omega) (by omega)
   rw[fixed_four _ (by omega)] at c1
   have s0:(four b.size).size+b.size≤9223372036854775807:=by rw[four_size];omega
   have s1:(four b.size).size+(sumOf (four b.size) b).size≤9223372036854775807:=by rw[four_size,sumOf_size];omega
   have s2:(four b.size).size+(sumOf (four b.size) b).size+b.size≤9223372036854775807:=by rw[four_size,sumOf_size];omega
   have ef:Hid (frame b=four b.size++sumOf (four b.size) b++b):=by unfold Hid;rw[frame,if_neg (by omega),frameOf]
   have c2:=fun wx=>spec_crc (four b.size++b) wx (by rw[ByteArray.size_append];exact s0)
   have c3:∀ wx:World,Calls Tryz.prog 149 #[.int .i64 ((crc (four b.size++b):Nat):Int),.int .i64 4] wx fun e w'=>e=.returned (.string (sumOf (four b.size) b))∧Below wx.heap.size wx w':=fun wx=>by
    have:=spec_fixed (crc (four b.size++b)) 4 wx (by have:=crc_lt (four b.size++b);omega) (by omega) (by omega)
    rw[fixed_four _ (crc_lt _)] at this
    exact this
   go_enter Tryz.func130,Tryz.ntmps130
   go_wp2_with fail
   refine c1.mono ?_
   rintro e w1 ⟨rfl,hb1⟩
   go_wp2_with fail
   refine (c2 _).mono ?_
   rintro e w2 ⟨rfl,rfl⟩
   go_wp2_with fail
   refine (c3 _).mono ?_
   rintro e w2 ⟨rfl,hb2⟩
   go_wp2_with fail
   go_ret
   exact ⟨by rw[ef.out];rfl,hb1.trans (hb2.mono hb1.size)⟩
end Go.Proofs.YtedmdilabbolaaaGreatDoor
namespace Go.Proofs.YtedmdilabbolaaaGreatDoor
open Go.ChangeShapes Go.WideShapes Go.ChangeAt Go.RowKit
set_option linter.unusedVariables false
theorem own:ownKnob Tryz.prog.godebug=none:=by kernel_rfl
theorem typeSum:(Tryz.prog.globals[3]?).map (·.type)=some 234:=by kernel_rfl
theorem typeShort:(Tryz.prog.globals[0]?).map (·.type)=some 191:=by kernel_rfl
theorem typeLen:(Tryz.prog.globals[1]?).map (·.type)=some 191:=by kernel_rfl
theorem typeBad:(Tryz.prog.globals[2]?).map (·.type)=some 191:=by kernel_rfl
theorem cellsSum:Tryz.prog.cellsOf 234=16:=by kernel_rfl
theorem cellsU32:Tryz.prog.cellsOf 216=1:=by kernel_rfl
theorem cellsES:Tryz.prog.cellsOf 257=1:=by kernel_rfl
theorem cellsStr:Tryz.prog.cellsOf 9=1:=by kernel_rfl
theorem sum_data:(Rows.laid_loop_example_g00360_impl_halfSums:DataW Unit)=Lib.tabData .u32 sumTab:=by kernel_rfl
theorem star : "*" ++ "errors.errorString" = "*errors.errorString" := by decide
theorem rowES (u : TypeId) (h : Tryz.prog.typeName? 3 u = some "*errors.errorString") : u = 235 :=
 typeName_ptr_named (nm := "errors.errorString") (by rw [star]; kernel_rfl) (by kernel_rfl) (by decide) u (by rw [star]; exact h)
theorem laidMet_skip {P:Program} {x y:String×DataW Unit} {r:List (String×DataW Unit)} {w:World} (h:laidMet P (x::y::r) w):laidMet P (x::r) w:=by
 obtain ⟨ps,hv,hnd,hrows⟩:=h
 obtain ⟨n,d⟩:=x
 obtain ⟨n',d'⟩:=y
 obtain ⟨g,t,cs,fuel,p,q,h1,h2,h3,h4,⟨g',t',cs',fuel',p',q',_,_,_,_,hq,rfl⟩,rfl⟩:=hv
 refine ⟨_,⟨g,t,cs,fuel,p,q',h1,h2,h3,h4,hq,rfl⟩,?_,fun b off hm=>hrows b off ?_⟩
 ·exact List.Nodup.sublist (List.Sublist.append_left (List.sublist_append_right _ _) _) hnd
 ·rcases List.mem_append.1 hm with hm | hm
  ·exact List.mem_append_left _ hm
  ·exact List.mem_append_right _ (List.mem_append_right _ hm)
def laid4 : List (String × DataW Unit) := [("loop.example/g00360/impl.halfSums", Rows.laid_loop_example_g00360_impl_halfSums), ("loop.example/g00360/impl.errFrameShort", Rows.laid_loop_example_g00360_impl_errFrameShort), ("loop.example/g00360/impl.errFrameLength", Rows.laid_loop_example_g00360_impl_errFrameLength), ("loop.example/g00360/impl.errFrameSum", Rows.laid_loop_example_g00360_impl_errFrameSum)]
theorem laid4_plain (W:World) (h:laidMetH Tryz.prog laid4 W):laidMet Tryz.prog laid4 W:=by
 rw[MakeChecks.laidMetH_plain _ _ _ (by kernel_rfl)] at h
 exact h
theorem met_sum {W:World} (h:laidMetH Tryz.prog laid4 W):SumTab W:=by
 have h1:=laid4_plain W h
 unfold laid4 at h1
 rw[sum_data] at h1
 exact Lib.tabIs_of_head gSum typeSum Tryz.underlying234 Tryz.underlying216 cellsU32 cellsSum h1
theorem met_errs {W:World} (h:laidMetH Tryz.prog laid4 W):∃ a0 a1 a2,Errs W a0 a1 a2:=by
 have h1:=(laid4_plain W h).tail
 obtain ⟨a0,a1,s0,s1,c0,c1,t0,t1,hv0,hv1,_,_,_,_,_,_,hne,hb0,hb1⟩:=laid_sentinels2 h1 gShort typeShort gLen typeLen Tryz.underlying191 rowES Tryz.underlying235 Tryz.underlying257 rfl rfl Tryz.underlying9 cellsES cellsStr
 obtain ⟨a0',a2,s0',s2,c0',c2,t0',t2,hv0',hv2,_,_,_,_,_,_,hne2,hb0',hb2⟩:=laid_sentinels2 (laidMet_skip h1) gShort typeShort gBad typeBad Tryz.underlying191 rowES Tryz.underlying235 Tryz.underlying257 rfl rfl Tryz.underlying9 cellsES cellsStr
 have e:a0'=a0:=by
  have:=hv0.symm.trans hv0'
  simp at this
  exact this.symm
 subst e
 exact ⟨a0',a1,a2,hv0,hv1,hv2,hne.symm,hne2.symm,⟨_,_,hb0⟩,⟨_,_,hb1⟩,⟨_,_,hb2⟩⟩
def sumCells:List Value:=sumTab.map fun z=>Value.int .u32 z
theorem sum_shut {H:Type} (enc:TypeId×Value→H) (W:World) (sp:Nat→Bool) (n:Nat):DataW.trod enc Tryz.prog W 0 sp true (n+2) 234 sumCells=some (Lib.tabData .u32 sumTab,[]):=by kernel_rfl
def sent (a:Addr):Value:=.iface 235 (.pointer (some a))
theorem sent_iface (a:Addr):IsIface (sent a):=trivial
theorem vars_errs {H:Type} (enc:TypeId×Value→H) {W:World} {a0 a1 a2:Addr} (h:Errs W a0 a1 a2) (ht:SumTab W) (sp:Nat→Bool) :
  DataW.TrodVars enc Tryz.prog W sp ["loop.example/g00360/impl.errFrameShort", "loop.example/g00360/impl.errFrameLength", "loop.example/g00360/impl.errFrameSum", "loop.example/g00360/impl.halfSums"]
   [tok enc (sent a0),tok enc (sent a1),tok enc (sent a2),Lib.tabData .u32 sumTab] (.cell 0 0::.cell 1 0::.cell 2 0::(MemPlace.row ⟨3,0,none⟩ 16++[]++[])) :=
 ⟨_,_,#[sent a0],1,[],_,gShort,typeShort,h.v0,trod_held Tryz.underlying191 (sent_iface a0) 0,⟨_,_,#[sent a1],1,[],_,gLen,typeLen,h.v1,trod_held Tryz.underlying191 (sent_iface a1) 0,⟨_,_,#[sent a2],1,[],_,gBad,typeBad,h.v2,trod_held Tryz.underlying191 (sent_iface a2) 0,
  ⟨_,_,_,2,[],[],gSum,typeSum,ht,sum_shut enc W sp 0,rfl,rfl⟩,rfl⟩,rfl⟩,rfl⟩
end Go.Proofs.YtedmdilabbolaaaGreatDoor
namespace Go.Proofs.YtedmdilabbolaaaGreatDoor
open Go.ChangeShapes Go.WideShapes Go.ChangeAt Go.RowKit Go.PlainAid
set_option linter.unusedVariables false
structure Ans where
 code:Int
 index:Int
 mark:Int
 data:ByteArray
instance:Inhabited Ans:=⟨⟨0,0,0,ByteArray.empty⟩⟩
def inRg (x lo hi:Int):Bool:=decide (lo≤x)&&decide (x≤hi)
def ansOk (x:Ans):Bool:=inRg x.code 0 4&&inRg x.index 0 100000&&inRg x.mark 0 1099511627776&&decide (x.data.size≤900)
def vAns (x:Ans):Value:=.agg #[.int .i64 x.code,.int .i64 x.index,.int .i64 x.mark,.string x.data]
def Cell4 (w:World) (g:Nat) (x:Ans):Prop:=w.cell? ⟨g,0,none⟩=some (.int .i64 x.code)∧w.cell? ⟨g,1,none⟩=some (.int .i64 x.index)∧w.cell? ⟨g,2,none⟩=some (.int .i64 x.mark)∧w.cell? ⟨g,3,none⟩=some (.string x.data)∧g<w.heap.size
theorem Cell4.on {w w':World} {B g:Nat} {x:Ans} (h:Cell4 w g x) (hb:Below B w w') (hg:g<B) (hs:B≤w.heap.size):Cell4 w' g x:=by
 obtain ⟨a,b,c,c',d⟩:=h
 refine ⟨?_,?_,?_,?_,Nat.lt_of_lt_of_le d ?_⟩
 ·rw[hb.cell (p:=⟨_,_,none⟩) hg];exact a
 ·rw[hb.cell (p:=⟨_,_,none⟩) hg];exact b
 ·rw[hb.cell (p:=⟨_,_,none⟩) hg];exact c
 ·rw[hb.cell (p:=⟨_,_,none⟩) hg];exact c'
 ·exact hb.size
theorem Cell4.new (w:World) (x:Ans) (t:TypeId):Cell4 (w.alloc (.cells #[.int .i64 x.code,.int .i64 x.index,.int .i64 x.mark,.string x.data] t)) w.heap.size x:=by
 have h:(w.alloc (.cells #[.int .i64 x.code,.int .i64 x.index,.int .i64 x.mark,.string x.data] t)).heap[w.heap.size]?=some (.cells #[.int .i64 x.code,.int .i64 x.index,.int .i64 x.mark,.string x.data] t (0,0)):=heap_alloc_new w _
 refine ⟨?_,?_,?_,?_,by simp⟩
 ·rw[cell_of_row _ _ 0 _ t (0,0) h];rfl
 ·rw[cell_of_row _ _ 1 _ t (0,0) h];rfl
 ·rw[cell_of_row _ _ 2 _ t (0,0) h];rfl
 ·rw[cell_of_row _ _ 3 _ t (0,0) h];rfl
theorem below_a1 (w:World) (a:Obj):Below w.heap.size w (w.alloc a):=(Below.refl _ w).alloc (Nat.le_refl _) a
theorem below_a3 (w:World) (a b c:Obj):Below w.heap.size w (((w.alloc a).alloc b).alloc c):=(((Below.refl _ w).alloc (Nat.le_refl _) a).alloc (by simp) b).alloc (by simp;omega) c
set_option maxHeartbeats 400000 in
theorem szAnswer (x:Ans) (left:Int) (w:World) (h0:0≤left) (h1:left≤1048576) (hx:x.data.size≤maxLen) :
  Calls Tryz.prog 115 #[vAns x,.int .i64 left] w fun e w'=>(∃ r,e=.returned (.int .i64 r)∧Hid (r=-1∨0≤r∧r+(x.data.size:Int)=left))∧Below w.heap.size w w':=by
 unfold maxLen at hx
 unfold vAns
 obtain ⟨xcode,xindex,xmark,xdata⟩:=x
 simp only at hx ⊢
 generalize hn:xdata.size=n at *
 have q1:(n:Int)≤9223372036854775807:=by omega
 have w2:wrap64 (left - (n:Int))=left - (n:Int):=by unfold wrap64;omega
 by_cases hl:left<(n:Int)
 ·have HL:Hid (left<(n:Int)):=hl
  have q2:left - (n:Int)<0:=by omega
  go_enter Tryz.func115,Tryz.ntmps115
  go_wp2
  go_ret
  exact ⟨⟨_,rfl,.inl rfl⟩,(Below.refl _ _).alloc (Nat.le_refl _) _⟩
 ·have HL:Hid ((n:Int)≤left):=by unfold Hid;omega
  have q2:0≤left - (n:Int):=by omega
  have q3:decide (left - (n:Int)<0)=false:=decide_eq_false (by omega)
  go_enter Tryz.func115,Tryz.ntmps115
  go_wp2
  go_ret
  exact ⟨⟨_,rfl,.inr ⟨by have:=HL.out;omega,by omega⟩⟩,(Below.refl _ _).alloc (Nat.le_refl _) _⟩
set_option maxHeartbeats 400000 in
theorem inS (x lo hi:Int) (w:World):Calls Tryz.prog 29 #[.int .i64 x,.int .i64 lo,.int .i64 hi] w fun e w'=>e=.returned (.bool (inRg x lo hi))∧w=w':=by
 by_cases h1:lo≤x
 ·go_enter Tryz.func29,Tryz.ntmps29
  go_wp2
  go_ret
  exact ⟨by simp[inRg,h1],rfl⟩
 ·have z:decide (lo≤x)=false:=decide_eq_false h1
  have z2:x<lo:=by omega
  go_enter Tryz.func29,Tryz.ntmps29
  go_wp2
  go_ret
  exact ⟨by unfold inRg;rw[z];rfl,rfl⟩
set_option maxHeartbeats 400000 in
theorem inI (x lo hi:Int) (w:World):Calls Tryz.prog 38 #[.int .i64 x,.int .i64 lo,.int .i64 hi] w fun e w'=>e=.returned (.bool (inRg x lo hi))∧w=w':=by
 by_cases h1:lo≤x
 ·go_enter Tryz.func38,Tryz.ntmps38
  go_wp2
  go_ret
  exact ⟨by simp[inRg,h1],rfl⟩
 ·have z:decide (lo≤x)=false:=decide_eq_false h1
  have z2:x<lo:=by omega
  go_enter Tryz.func38,Tryz.ntmps38
  go_wp2
  go_ret
  exact ⟨by unfold inRg;rw[z];rfl,rfl⟩
set_option maxHeartbeats 2000000 in
theorem specAnswerOk (x:Ans) (w:World) (hd:x.data.size≤maxLen):Calls Tryz.prog 80 #[vAns x] w fun e w'=>e=.returned (.bool (ansOk x))∧Below w.heap.size w w':=by
 obtain ⟨c,i,m,d⟩:=x
 unfold vAns
 simp only at hd ⊢
 have HB:Hid (Below w.heap.size w (w.alloc (.cells #[.int .i64 c,.int .i64 i,.int .i64 m,.string d] 72))):=below_a1 _ _
 have HE:Hid (ansOk ⟨c,i,m,d⟩=(inRg c 0 4&&inRg i 0 100000&&inRg m 0 1099511627776&&decide (d.size≤900))):=rfl
 have hdi:(d.size:Int)≤9223372036854775807:=by unfold maxLen at hd;omega
 have hq:Hid (decide ((d.size:Int)≤900)=decide (d.size≤900)):=by
  unfold Hid
  by_cases h:d.size≤900
  ·rw[decide_eq_true h,decide_eq_true (by omega)]
  ·rw[decide_eq_false h,decide_eq_false (by omega)]
 clear hd
 have a1:=inS c 0 4
 have a2:=inS i 0 100000
 have a3:=inS m 0 1099511627776
 cases h1:inRg c 0 4<;>rw[h1] at a1 HE<;>clear h1
 ·go_enter Tryz.func80,Tryz.ntmps80
  go_wp2_with fail
  refine (a1 _).mono ?_
  rintro e w' ⟨rfl,rfl⟩
  go_wp2_with fail
  go_ret
  exact ⟨by rw[HE.out];rfl,HB.out⟩
 cases h2:inRg i 0 100000<;>rw[h2] at a2 HE<;>clear h2
 ·go_enter Tryz.func80,Tryz.ntmps80
  go_wp2_with fail
  refine (a1 _).mono ?_
  rintro e w' ⟨rfl,rfl⟩
  go_wp2_with fail
  refine (a2 _).mono ?_
  rintro e w' ⟨rfl,rfl⟩
  go_wp2_with fail
  go_ret
  exact ⟨by rw[HE.out];rfl,HB.out⟩
 cases h3:inRg m 0 1099511627776<;>rw[h3] at a3 HE<;>clear h3
 ·go_enter Tryz.func80,Tryz.ntmps80
  go_wp2_with fail
  refine (a1 _).mono ?_
  rintro e w' ⟨rfl,rfl⟩
  go_wp2_with fail
  refine (a2 _).mono ?_
  rintro e w' ⟨rfl,rfl⟩
  go_wp2_with fail
  refine (a3 _).mono ?_
  rintro e w' ⟨rfl,rfl⟩
  go_wp2_with fail
  go_ret
  exact ⟨by rw[HE.out];rfl,HB.out⟩
 go_enter Tryz.func80,Tryz.ntmps80
 go_wp2_with fail
 refine (a1 _).mono ?_
 rintro e w' ⟨rfl,rfl⟩
 go_wp2_with fail
 refine (a2 _).mono ?_
 rintro e w' ⟨rfl,rfl⟩
 go_wp2_with fail
 refine (a3 _).mono ?_
 rintro e w' ⟨rfl,rfl⟩
 go_wp2_with fail
 go_ret
 exact ⟨by rw[HE.out,← hq.out];rfl,HB.out⟩
set_option maxHeartbeats 2000000 in
theorem implAnswerOk (x:Ans) (w:World) (hd:x.data.size≤maxLen):Calls Tryz.prog 126 #[vAns x] w fun e w'=>e=.returned (.bool (ansOk x))∧Below w.heap.size w w':=by
 obtain ⟨c,i,m,d⟩:=x
 unfold vAns
 simp only at hd ⊢
 have HB:Hid (Below w.heap.size w (w.alloc (.cells #[.int .i64 c,.int .i64 i,.int .i64 m,.string d] 72))):=below_a1 _ _
 have HE:Hid (ansOk ⟨c,i,m,d⟩=(inRg c 0 4&&inRg i 0 100000&&inRg m 0 1099511627776&&decide (d.size≤900))):=rfl
 have hdi:(d.size:Int)≤9223372036854775807:=by unfold maxLen at hd;omega
 have hq:Hid (decide ((d.size:Int)≤900)=decide (d.size≤900)):=by
  unfold Hid
  by_cases h:d.size≤900
  ·rw[decide_eq_true h,decide_eq_true (by omega)]
  ·rw[decide_eq_false h,decide_eq_false (by omega)]
 clear hd
 have a1:=inI c 0 4
 have a2:=inI i 0 100000
 have a3:=inI m 0 1099511627776
 cases h1:inRg c 0 4<;>rw[h1] at a1 HE<;>clear h1
 ·go_enter Tryz.func126,Tryz.ntmps126
  go_wp2_with fail
  refine (a1 _).mono ?_
  rintro e w' ⟨rfl,rfl⟩
  go_wp2_with fail
  go_ret
  exact ⟨by rw[HE.out];rfl,HB.out⟩
 cases h2:inRg i 0 100000<;>rw[h2] at a2 HE<;>clear h2
 ·go_enter Tryz.func126,Tryz.ntmps126
  go_wp2_with fail
  refine (a1 _).mono ?_
  rintro e w' ⟨rfl,rfl⟩
  go_wp2_with fail
  refine (a2 _).mono ?_
  rintro e w' ⟨rfl,rfl⟩
  go_wp2_with fail
  go_ret
  exact ⟨by rw[HE.out];rfl,HB.out⟩
 cases h3:inRg m 0 1099511627776<;>rw[h3] at a3 HE<;>clear h3
 ·go_enter Tryz.func126,Tryz.ntmps126
  go_wp2_with fail
  refine (a1 _).mono ?_
  rintro e w' ⟨rfl,rfl⟩
  go_wp2_with fail
  refine (a2 _).mono ?_
  rintro e w' ⟨rfl,rfl⟩
  go_wp2_with fail
  refine (a3 _).mono ?_
  rintro e w' ⟨rfl,rfl⟩
  go_wp2_with fail
  go_ret
  exact ⟨by rw[HE.out];rfl,HB.out⟩
 go_enter Tryz.func126,Tryz.ntmps126
 go_wp2_with fail
 refine (a1 _).mono ?_
 rintro e w' ⟨rfl,rfl⟩
 go_wp2_with fail
 refine (a2 _).mono ?_
 rintro e w' ⟨rfl,rfl⟩
 go_wp2_with fail
 refine (a3 _).mono ?_
 rintro e w' ⟨rfl,rfl⟩
 go_wp2_with fail
 go_ret
 exact ⟨by rw[HE.out,← hq.out];rfl,HB.out⟩
end Go.Proofs.YtedmdilabbolaaaGreatDoor
namespace Go.Proofs.YtedmdilabbolaaaGreatDoor
open Go.ChangeShapes Go.WideShapes Go.ChangeAt Go.RowKit Go.PlainAid
set_option linter.unusedVariables false
structure Opx where
 kind:Int
 key:ByteArray
 frm:Int
 til:Int
 data:ByteArray
def vOp (x:Opx):Value:=.agg #[.int .i64 x.kind,.string x.key,.int .i64 x.frm,.int .i64 x.til,.string x.data]
def OpFit (x:Opx):Prop:=x.key.size≤maxLen∧x.data.size≤maxLen
def CellO (w:World) (g:Nat) (x:Opx):Prop:=(w.cell? ⟨g,0,none⟩=some (.int .i64 x.kind)∧w.cell? ⟨g,1,none⟩=some (.string x.key)∧w.cell? ⟨g,2,none⟩=some (.int .i64 x.frm)∧w.cell? ⟨g,3,none⟩=some (.int .i64 x.til)∧w.cell? ⟨g,4,none⟩=some (.string x.data))∧g<w.heap.size
theorem CellO.on {w w':World} {B g:Nat} {x:Opx} (h:CellO w g x) (hb:Below B w w') (hg:g<B):CellO w' g x:=by
 obtain ⟨⟨a,b,c,d,e⟩,f⟩:=h
 refine ⟨⟨?_,?_,?_,?_,?_⟩,Nat.lt_of_lt_of_le f hb.size⟩
 ·rw[hb.cell (p:=⟨_,_,none⟩) hg];exact a
 ·rw[hb.cell (p:=⟨_,_,none⟩) hg];exact b
 ·rw[hb.cell (p:=⟨_,_,none⟩) hg];exact c
 ·rw[hb.cell (p:=⟨_,_,none⟩) hg];exact d
 ·rw[hb.cell (p:=⟨_,_,none⟩) hg];exact e
theorem CellO.new (w:World) (x:Opx) (t:TypeId):CellO (w.alloc (.cells #[.int .i64 x.kind,.string x.key,.int .i64 x.frm,.int .i64 x.til,.string x.data] t)) w.heap.size x:=by
 have h:(w.alloc (.cells #[.int .i64 x.kind,.string x.key,.int .i64 x.frm,.int .i64 x.til,.string x.data] t)).heap[w.heap.size]?=some (.cells #[.int .i64 x.kind,.string x.key,.int .i64 x.frm,.int .i64 x.til,.string x.data] t (0,0)):=heap_alloc_new w _
 refine ⟨⟨?_,?_,?_,?_,?_⟩,by simp⟩
 ·rw[cell_of_row _ _ 0 _ t (0,0) h];rfl
 ·rw[cell_of_row _ _ 1 _ t (0,0) h];rfl
 ·rw[cell_of_row _ _ 2 _ t (0,0) h];rfl
 ·rw[cell_of_row _ _ 3 _ t (0,0) h];rfl
 ·rw[cell_of_row _ _ 4 _ t (0,0) h];rfl
set_option maxHeartbeats 400000 in
theorem szOp (x:Opx) (left:Int) (w:World) (h0:0≤left) (h1:left≤1048576) (hx:OpFit x) :
  Calls Tryz.prog 114 #[vOp x,.int .i64 left] w fun e w'=>(∃ r,e=.returned (.int .i64 r)∧Hid (r=-1∨0≤r∧r+(x.key.size:Int)+(x.data.size:Int)=left))∧Below w.heap.size w w':=by
 unfold OpFit maxLen at hx
 unfold vOp
 obtain ⟨xk,xkey,xf,xt,xdata⟩:=x
 simp only at hx ⊢
 generalize hm:xkey.size=m at *
 generalize hn:xdata.size=n at *
 have q0:(m:Int)≤9223372036854775807:=by omega
 have q1:(n:Int)≤9223372036854775807:=by omega
 have w1:wrap64 (left - (m:Int))=left - (m:Int):=by unfold wrap64;omega
 by_cases hl:left<(m:Int)
 ·have HL:Hid (left<(m:Int)):=hl
  have q2:left - (m:Int)<0:=by omega
  go_enter Tryz.func114,Tryz.ntmps114
  go_wp2
  go_ret
  exact ⟨⟨_,rfl,.inl rfl⟩,(Below.refl _ _).alloc (Nat.le_refl _) _⟩
 ·have q2:0≤left - (m:Int):=by omega
  have q3:decide (left - (m:Int)<0)=false:=decide_eq_false (by omega)
  have w2:wrap64 (left - (m:Int) - (n:Int))=left - (m:Int) - (n:Int):=by unfold wrap64;omega
  by_cases hl2:left - (m:Int)<(n:Int)
  ·have q4:left - (m:Int) - (n:Int)<0:=by omega
   go_enter Tryz.func114,Tryz.ntmps114
   go_wp2
   go_ret
   exact ⟨⟨_,rfl,.inl rfl⟩,(Below.refl _ _).alloc (Nat.le_refl _) _⟩
  ·have HL:Hid (0≤left - (m:Int) - (n:Int)):=by unfold Hid;omega
   have q4:decide (left - (m:Int) - (n:Int)<0)=false:=decide_eq_false (by omega)
   go_enter Tryz.func114,Tryz.ntmps114
   go_wp2
   go_ret
   exact ⟨⟨_,rfl,.inr ⟨by have:=HL.out;omega,by omega⟩⟩,(Below.refl _ _).alloc (Nat.le_refl _) _⟩
theorem list5 {α:Type} {l:List α} (h:l.length=5):∃ a b c d e,l=[a,b,c,d,e]:=by
 match l,h with
 | [a,b,c,d,e],_=>exact ⟨a,b,c,d,e,rfl⟩
section
variable {H:Type} {enc:TypeId×Value→H} {w:World} {base:Nat} {spare:Nat→Bool} {held:Bool}
end
end Go.Proofs.YtedmdilabbolaaaGreatDoor
namespace Go.Proofs.YtedmdilabbolaaaGreatDoor
open Go.ChangeShapes Go.WideShapes Go.ChangeAt Go.RowKit Go.PlainAid
set_option linter.unusedVariables false
structure Tdo where
 group:Int
 kind:Int
 key:ByteArray
 frm:Int
 til:Int
 data:ByteArray
instance:Inhabited Tdo:=⟨⟨0,0,ByteArray.empty,0,0,ByteArray.empty⟩⟩
def Tdo.op (x:Tdo):Opx:=⟨x.kind,x.key,x.frm,x.til,x.data⟩
structure Lgx where
 group:Int
 serial:Int
 kind:Int
 key:ByteArray
 frm:Int
 til:Int
 data:ByteArray
 code:Int
 index:Int
 mark:Int
 told:ByteArray
instance:Inhabited Lgx:=⟨⟨0,0,0,ByteArray.empty,0,0,ByteArray.empty,0,0,0,ByteArray.empty⟩⟩
def Lgx.op (x:Lgx):Opx:=⟨x.kind,x.key,x.frm,x.til,x.data⟩
def Lgx.ans (x:Lgx):Ans:=⟨x.code,x.index,x.mark,x.told⟩
def tdoC (x:Tdo):List Value:=[.int .i64 x.group,.int .i64 x.kind,.string x.key,.int .i64 x.frm,.int .i64 x.til,.string x.data]
def tdoR (l:List Tdo):List (List Value):=l.map tdoC
theorem tdoR_snoc (l:List Tdo) (k:Nat) (h:k<l.length):tdoR (l.take (k+1))=tdoR (l.take k)++[tdoC (l.getD k default)]:=by
 unfold tdoR
 rw[take_getD l k h,List.map_append]
 rfl
theorem tdo_look {w:World} {B:Nat} {v:Value} {l:List Tdo} (h:Lies w B 6 v (tdoR l)):∃ A cap,v=.slice A l.length cap∧∀ j,j<l.length→∃ g off,A=some ⟨g,off,none⟩∧g<B ∧
  w.cell? ⟨g,off+j*6,none⟩=some (.int .i64 (l.getD j default).group)∧w.cell? ⟨g,off+j*6+1,none⟩=some (.int .i64 (l.getD j default).kind)∧w.cell? ⟨g,off+j*6+2,none⟩=some (.string (l.getD j default).key)∧w.cell? ⟨g,off+j*6+3,none⟩=some (.int .i64 (l.getD j default).frm)∧w.cell? ⟨g,off+j*6+4,none⟩=some (.int .i64 (l.getD j default).til)∧w.cell? ⟨g,off+j*6+5,none⟩=some (.string (l.getD j default).data):=by
 obtain ⟨A,cap,e,h⟩:=h.look
 refine ⟨A,cap,by rw[e];simp[tdoR],fun j hj=>?_⟩
 rw[← getD_at l j hj]
 obtain ⟨g,off,e,hg,hc⟩:=h j (by simpa[tdoR] using hj)
 refine ⟨g,off,e,hg,?_,?_,?_,?_,?_,?_⟩
 ·have:=hc 0 _ (by omega) (by simp[tdoR,tdoC];rfl);simpa[Nat.add_assoc] using this
 ·have:=hc 1 _ (by omega) (by simp[tdoR,tdoC];rfl);simpa[Nat.add_assoc] using this
 ·have:=hc 2 _ (by omega) (by simp[tdoR,tdoC];rfl);simpa[Nat.add_assoc] using this
 ·have:=hc 3 _ (by omega) (by simp[tdoR,tdoC];rfl);simpa[Nat.add_assoc] using this
 ·have:=hc 4 _ (by omega) (by simp[tdoR,tdoC];rfl);simpa[Nat.add_assoc] using this
 ·have:=hc 5 _ (by omega) (by simp[tdoR,tdoC];rfl);simpa[Nat.add_assoc] using this
section
variable {w:World} {base g cap:Nat} {e:TypeId} {rows:List (List Value)}
theorem Owns.put6 (h:Owns w base e 6 (.slice (some ⟨g,0,none⟩) rows.length cap) rows) (k:Nat) (hk:k<rows.length) (v0 v1 v2 v3 v4 v5:Value) :
  Owns ((((((w.setCell ⟨g,k*6,none⟩ v0).setCell ⟨g,k*6+1,none⟩ v1).setCell ⟨g,k*6+2,none⟩ v2).setCell ⟨g,k*6+3,none⟩ v3).setCell ⟨g,k*6+4,none⟩ v4).setCell ⟨g,k*6+5,none⟩ v5) base e 6 (.slice (some ⟨g,0,none⟩) rows.length cap) (rows.set k [v0,v1,v2,v3,v4,v5]):=by
 have h1:=(World.ownsRow.stored h.2 (k*6) v0).1
 have h2:=(World.ownsRow.stored h1 (k*6+1) v1).1
 have h3:=(World.ownsRow.stored h2 (k*6+2) v2).1
 have h4:=(World.ownsRow.stored h3 (k*6+3) v3).1
 have h5:=(World.ownsRow.stored h4 (k*6+4) v4).1
 have h6:=(World.ownsRow.stored h5 (k*6+5) v5).1
 refine ⟨set_len h.1 rfl,?_⟩
 rw[List.length_set]
 obtain ⟨F1,F2,l1,e1,e2⟩:=flat_parts 6 rows h.1 k hk
 have hr:=h.1 rows[k] (List.getElem_mem hk)
 obtain ⟨x0,x1,x2,x3,x4,x5,hxy⟩:∃ x0 x1 x2 x3 x4 x5,rows[k]=[x0,x1,x2,x3,x4,x5]:=by
  match hh:rows[k],hr with
  | [x0,x1,x2,x3,x4,x5],_=>exact ⟨x0,x1,x2,x3,x4,x5,rfl⟩
 rw[e2]
 rw[e1,hxy] at h6
 have:(((((((F1++([x0,x1,x2,x3,x4,x5]++F2)).set (k*6) v0).set (k*6+1) v1).set (k*6+2) v2).set (k*6+3) v3).set (k*6+4) v4).set (k*6+5) v5)=F1++([v0,v1,v2,v3,v4,v5]++F2):=by
  rw[← l1,List.set_append_right _ _ (by omega),List.set_append_right _ _ (by omega),List.set_append_right _ _ (by omega),List.set_append_right _ _ (by omega),List.set_append_right _ _ (by omega),List.set_append_right _ _ (by omega)]
  simp
 rw[this] at h6
 exact h6
end
def lgxC (x:Lgx):List Value:=[.int .i64 x.group,.int .i64 x.serial,.int .i64 x.kind,.string x.key,.int .i64 x.frm,.int .i64 x.til,.string x.data,.int .i64 x.code,.int .i64 x.index,.int .i64 x.mark,.string x.told]
def lgxR (l:List Lgx):List (List Value):=l.map lgxC
theorem lgxR_snoc (l:List Lgx) (k:Nat) (h:k<l.length):lgxR (l.take (k+1))=lgxR (l.take k)++[lgxC (l.getD k default)]:=by
 unfold lgxR
 rw[take_getD l k h,List.map_append]
 rfl
theorem lgx_look {w:World} {B:Nat} {v:Value} {l:List Lgx} (h:Lies w B 11 v (lgxR l)):∃ A cap,v=.slice A l.length cap∧∀ j,j<l.length→∃ g off,A=some ⟨g,off,none⟩∧g<B ∧
  w.cell? ⟨g,off+j*11,none⟩=some (.int .i64 (l.getD j default).group)∧w.cell? ⟨g,off+j*11+1,none⟩=some (.int .i64 (l.getD j default).serial)∧w.cell? ⟨g,off+j*11+2,none⟩=some (.int .i64 (l.getD j default).kind)∧w.cell? ⟨g,off+j*11+3,none⟩=some (.string (l.getD j default).key)∧w.cell? ⟨g,off+j*11+4,none⟩=some (.int .i64 (l.getD j default).frm)∧w.cell? ⟨g,off+j*11+5,none⟩=some (.int .i64 (l.getD j default).til)∧w.cell? ⟨g,off+j*11+6,none⟩=some (.string (l.getD j default).data)∧w.cell? ⟨g,off+j*11+7,none⟩=some (.int .i64 (l.getD j default).code)∧w.cell? ⟨g,off+j*11+8,none⟩=some (.int .i64 (l.getD j default).index)∧w.cell? ⟨g,off+j*11+9,none⟩=some (.int .i64 (l.getD j default).mark)∧w.cell? ⟨g,off+j*11+10,none⟩=some (.string (l.getD j default).told):=by
 obtain ⟨A,cap,e,h⟩:=h.look
 refine ⟨A,cap,by rw[e];simp[lgxR],fun j hj=>?_⟩
 rw[← getD_at l j hj]
 obtain ⟨g,off,e,hg,hc⟩:=h j (by simpa[lgxR] using hj)
 refine ⟨g,off,e,hg,?_,?_,?_,?_,?_,?_,?_,?_,?_,?_,?_⟩
 ·have:=hc 0 _ (by omega) (by simp[lgxR,lgxC];rfl);simpa[Nat.add_assoc] using this
 ·have:=hc 1 _ (by omega) (by simp[lgxR,lgxC];rfl);simpa[Nat.add_assoc] using this
 ·have:=hc 2 _ (by omega) (by simp[lgxR,lgxC];rfl);simpa[Nat.add_assoc] using this
 ·have:=hc 3 _ (by omega) (by simp[lgxR,lgxC];rfl);simpa[Nat.add_assoc] using this
 ·have:=hc 4 _ (by omega) (by simp[lgxR,lgxC];rfl);simpa[Nat.add_assoc] using this
 ·have:=hc 5 _ (by omega) (by simp[lgxR,lgxC];rfl);simpa[Nat.add_assoc] using this
 ·have:=hc 6 _ (by omega) (by simp[lgxR,lgxC];rfl);simpa[Nat.add_assoc] using this
 ·have:=hc 7 _ (by omega) (by simp[lgxR,lgxC];rfl);simpa[Nat.add_assoc] using this
 ·have:=hc 8 _ (by omega) (by simp[lgxR,lgxC];rfl);simpa[Nat.add_assoc] using this
 ·have:=hc 9 _ (by omega) (by simp[lgxR,lgxC];rfl);simpa[Nat.add_assoc] using this
 ·have:=hc 10 _ (by omega) (by simp[lgxR,lgxC];rfl);simpa[Nat.add_assoc] using this
section
variable {w:World} {base g cap:Nat} {e:TypeId} {rows:List (List Value)}
theorem Owns.put11 (h:Owns w base e 11 (.slice (some ⟨g,0,none⟩) rows.length cap) rows) (k:Nat) (hk:k<rows.length) (v0 v1 v2 v3 v4 v5 v6 v7 v8 v9 v10:Value) :
  Owns (((((((((((w.setCell ⟨g,k*11,none⟩ v0).setCell ⟨g,k*11+1,none⟩ v1).setCell ⟨g,k*11+2,none⟩ v2).setCell ⟨g,k*11+3,none⟩ v3).setCell ⟨g,k*11+4,none⟩ v4).setCell ⟨g,k*11+5,none⟩ v5).setCell ⟨g,k*11+6,none⟩ v6).setCell ⟨g,k*11+7,none⟩ v7).setCell ⟨g,k*11+8,none⟩ v8).setCell ⟨g,k*11+9,none⟩ v9).setCell ⟨g,k*11+10,none⟩ v10) base e 11 (.slice (some ⟨g,0,none⟩) rows.length cap) (rows.set k [v0,v1,v2,v3,v4,v5,v6,v7,v8,v9,v10]):=by
 have h1:=(World.ownsRow.stored h.2 (k*11) v0).1
 have h2:=(World.ownsRow.stored h1 (k*11+1) v1).1
 have h3:=(World.ownsRow.stored h2 (k*11+2) v2).1
 have h4:=(World.ownsRow.stored h3 (k*11+3) v3).1
 have h5:=(World.ownsRow.stored h4 (k*11+4) v4).1
 have h6:=(World.ownsRow.stored h5 (k*11+5) v5).1
 have h7:=(World.ownsRow.stored h6 (k*11+6) v6).1
 have h8:=(World.ownsRow.stored h7 (k*11+7) v7).1
 have h9:=(World.ownsRow.stored h8 (k*11+8) v8).1
 have h10:=(World.ownsRow.stored h9 (k*11+9) v9).1
 have h11:=(World.ownsRow.stored h10 (k*11+10) v10).1
 refine ⟨set_len h.1 rfl,?_⟩
 rw[List.length_set]
 obtain ⟨F1,F2,l1,e1,e2⟩:=flat_parts 11 rows h.1 k hk
 have hr:=h.1 rows[k] (List.getElem_mem hk)
 obtain ⟨x0,x1,x2,x3,x4,x5,x6,x7,x8,x9,x10,hxy⟩:∃ x0 x1 x2 x3 x4 x5 x6 x7 x8 x9 x10,rows[k]=[x0,x1,x2,x3,x4,x5,x6,x7,x8,x9,x10]:=by
  match hh:rows[k],hr with
  | [x0,x1,x2,x3,x4,x5,x6,x7,x8,x9,x10],_=>exact ⟨x0,x1,x2,x3,x4,x5,x6,x7,x8,x9,x10,rfl⟩
 rw[e2]
 rw[e1,hxy] at h11
 have:((((((((((((F1++([x0,x1,x2,x3,x4,x5,x6,x7,x8,x9,x10]++F2)).set (k*11) v0).set (k*11+1) v1).set (k*11+2) v2).set (k*11+3) v3).set (k*11+4) v4).set (k*11+5) v5).set (k*11+6) v6).set (k*11+7) v7).set (k*11+8) v8).set (k*11+9) v9).set (k*11+10) v10)=F1++([v0,v1,v2,v3,v4,v5,v6,v7,v8,v9,v10]++F2):=by
  rw[← l1,List.set_append_right _ _ (by omega),List.set_append_right _ _ (by omega),List.set_append_right _ _ (by omega),List.set_append_right _ _ (by omega),List.set_append_right _ _ (by omega),List.set_append_right _ _ (by omega),List.set_append_right _ _ (by omega),List.set_append_right _ _ (by omega),List.set_append_right _ _ (by omega),List.set_append_right _ _ (by omega),List.set_append_right _ _ (by omega)]
  simp
 rw[this] at h11
 exact h11
end
end Go.Proofs.YtedmdilabbolaaaGreatDoor
namespace Go.Proofs.YtedmdilabbolaaaGreatDoor
open Go.ChangeShapes Go.WideShapes Go.ChangeAt Go.RowKit Go.PlainAid
set_option linter.unusedVariables false
set_option maxHeartbeats 400000 in
theorem spec_var (n:Nat) (w:World) (h1:n≤562949953421311) :
  Calls Tryz.prog 89 #[.int .i64 (n:Int)] w fun e w'=>e=.returned (.string (txt (vF 6 n)))∧Below w.heap.size w w':=by
 have q1:(n:Int)≤562949953421311:=by omega
 go_enter Tryz.func89,Tryz.ntmps89
 go_wp2_with (go_at_call 29;refine (in_yes _ _ _ _ (by omega) (by omega)).mono ?_;rintro e w' ⟨rfl,rfl⟩)
 go_loopw [0,3] (fun v0 v3 wr=>∃ m f:Nat,∃ pre:List UInt8,v0=.int .i64 m∧m≤562949953421311∧m<128 ^ (f+1)∧pre++vF f m=vF 6 n∧Buf wr w.heap.size v3 pre∧Below w.heap.size w wr) (fun i _ _=>(intOf i).toNat)
 case atStart=>exact ⟨n,6,[],rfl,h1,by omega,rfl,Buf.made w w.heap.size 0 #[] (Nat.le_refl _) (by simp[maxLen]) rfl,(Below.refl _ _).alloc (Nat.le_refl _) _⟩
 case round =>
  obtain ⟨m,f,pre,rfl,hm1,hm2,hpre,hbuf,hb⟩:=hrel
  have HP:Hid (pre++vF f m=vF 6 n):=hpre
  clear hpre
  have HM:Hid (m<128 ^ (f+1)):=hm2
  clear hm2
  have hlp:pre.length≤7:=by
   have:=congrArg List.length HP.out
   have:=vF_length 6 n
   simp at *
   omega
  have hsz:=hb.size
  by_cases hlt:(128:Int)≤(m:Int)
  ·have hcs:=one_cell (128+(m:Int) % 128) (128+m % 128) (by omega) (by omega)
   have HC:Hid (#[Value.int .u8 (128+(m:Int) % 128)]=byteCells [byt (128+m % 128)]):=hcs
   clear hcs
   go_wp2_with (at_builtin;refine wpList_append_bytes rfl (.tmp 10) (.tmp 15) 48 rfl Tryz.underlying48 Tryz.info5 w.heap.size _ pre rfl hbuf _ [byt (128+m % 128)] HC.out 1 1 rfl rfl (by simp;omega) hsz ?_;intro v' w1 hbuf1 hb1)
   obtain ⟨g,hg1,hg2,_⟩:=vF_round f m pre HM.out (by omega)
   go_roundw
   case rel=>exact ⟨m / 128,g,pre++[byt (128+m % 128)],by go_num,by omega,hg1,hg2.trans HP.out,hbuf1,hb.trans hb1⟩
   case measure=>simp[intOf];omega
  ·have hcs:=one_cell (m:Int) m rfl (by omega)
   have HC:Hid (#[Value.int .u8 (m:Int)]=byteCells [byt m]):=hcs
   clear hcs
   go_wp2_with (at_builtin;refine wpList_append_bytes rfl (.tmp 19) (.tmp 22) 48 rfl Tryz.underlying48 Tryz.info5 w.heap.size _ pre rfl hbuf _ [byt m] HC.out 1 1 rfl rfl (by simp;omega) hsz ?_;intro v' w1 hbuf1 hb1;have hcv:=hbuf1.string (P:=Tryz.prog) 48 9 Tryz.underlying48 Tryz.underlying5 Tryz.underlying9)
   go_ret
   exact ⟨by rw[← HP.out,vF_small f m (by omega)];rfl,hb.trans hb1⟩
set_option maxHeartbeats 400000 in
theorem impl_var (n:Nat) (w:World) (h1:n≤562949953421311) :
  Calls Tryz.prog 91 #[.int .i64 (n:Int)] w fun e w'=>e=.returned (.string (txt (vF 6 n)))∧Below w.heap.size w w':=by
 have q1:(n:Int)≤562949953421311:=by omega
 have q0:(0:Int)≤(n:Int):=by omega
 have hmk:∀ w:World,(Instr.makeSlice 48 (.int .i64 0) (.int .i64 7)).run Tryz.prog w=.ok (.slice (some ⟨w.heap.size,0,none⟩) 0 7) (w.alloc (.cells #[.int .u8 0,.int .u8 0,.int .u8 0,.int .u8 0,.int .u8 0,.int .u8 0,.int .u8 0] 5)):=fun _=>by kernel_rfl
 go_enter Tryz.func91,Tryz.ntmps91
 go_wp2
 go_loopw [0,3] (fun v0 v3 wr=>∃ m f:Nat,∃ pre:List UInt8,v0=.int .i64 m∧m≤562949953421311∧m<128 ^ (f+1)∧pre++vF f m=vF 6 n∧Buf wr w.heap.size v3 pre∧Below w.heap.size w wr) (fun i _ _=>(intOf i).toNat)
 case atStart=>exact ⟨n,6,[],rfl,h1,by omega,rfl,Buf.made w w.heap.size 7 _ (Nat.le_refl _) (by simp[maxLen]) rfl,(Below.refl _ _).alloc (Nat.le_refl _) _⟩
 case round =>
  obtain ⟨m,f,pre,rfl,hm1,hm2,hpre,hbuf,hb⟩:=hrel
  have HP:Hid (pre++vF f m=vF 6 n):=hpre
  clear hpre
  have HM:Hid (m<128 ^ (f+1)):=hm2
  clear hm2
  have hlp:pre.length≤7:=by
   have:=congrArg List.length HP.out
   have:=vF_length 6 n
   simp at *
   omega
  have hsz:=hb.size
  by_cases hlt:(128:Int)≤(m:Int)
  ·have hcs:=one_cell ((m:Int) % 128+128) (128+m % 128) (by omega) (by omega)
   have HC:Hid (#[Value.int .u8 ((m:Int) % 128+128)]=byteCells [byt (128+m % 128)]):=hcs
   clear hcs
   go_wp2_with (at_builtin;refine wpList_append_bytes rfl (.tmp 13) (.tmp 18) 48 rfl Tryz.underlying48 Tryz.info5 w.heap.size _ pre rfl hbuf _ [byt (128+m % 128)] HC.out 1 1 rfl rfl (by simp;omega) hsz ?_;intro v' w1 hbuf1 hb1)
   obtain ⟨g,hg1,hg2,_⟩:=vF_round f m pre HM.out (by omega)
   go_roundw
   case rel=>exact ⟨m / 128,g,pre++[byt (128+m % 128)],by go_num,by omega,hg1,hg2.trans HP.out,hbuf1,hb.trans hb1⟩
   case measure=>simp[intOf];omega
  ·have hcs:=one_cell (m:Int) m rfl (by omega)
   have HC:Hid (#[Value.int .u8 (m:Int)]=byteCells [byt m]):=hcs
   clear hcs
   go_wp2_with (at_builtin;refine wpList_append_bytes rfl (.tmp 22) (.tmp 25) 48 rfl Tryz.underlying48 Tryz.info5 w.heap.size _ pre rfl hbuf _ [byt m] HC.out 1 1 rfl rfl (by simp;omega) hsz ?_;intro v' w1 hbuf1 hb1;have hcv:=hbuf1.string (P:=Tryz.prog) 48 9 Tryz.underlying48 Tryz.underlying5 Tryz.underlying9)
   go_ret
   exact ⟨by rw[← HP.out,vF_small f m (by omega)];rfl,hb.trans hb1⟩
end Go.Proofs.YtedmdilabbolaaaGreatDoor
namespace Go.Proofs.YtedmdilabbolaaaGreatDoor
open Go.ChangeShapes Go.WideShapes Go.ChangeAt Go.RowKit Go.PlainAid
set_option linter.unusedVariables false
def ReadV (s:ByteArray) (e:Ending):Prop :=
 (∃ k:Nat,FindV s k∧e=.returned (.tuple #[.int .i64 (vvS s 0 k:Int),.int .i64 (k:Int)]))∨((∀ k,¬ FindV s k)∧e=.returned (.tuple #[.int .i64 0,.int .i64 0]))
theorem vvS_or (s:ByteArray) (k:Nat) (h:k<7):bits .or .i64 (vvS s 0 k:Int) (wrap64 ((bn s k:Int) % 128*2 ^ (7*k)))=(vvS s 0 (k+1):Int):=by
 have h1:=vvS_lt s k 0
 have h2:=vvS_le s (k+1) (by omega) 0
 have e:=vvS_snoc s k 0
 rw[Nat.zero_add] at e
 have e2:(128:Nat) ^ k=2 ^ (7*k):=by rw[Nat.pow_mul]
 have c:(bn s k:Int) % 128*2 ^ (7*k)=((bn s k % 128*2 ^ (7*k):Nat):Int):=by norm_cast
 rw[e2] at e h1
 rw[c,IntWalk.wrap64_in _ ⟨by omega,by omega⟩]
 have j:=or_join (7*k) (bn s k % 128*2 ^ (7*k)) (vvS s 0 k) (Nat.mul_mod_left _ _) h1 (by omega)
 have comm:bits .or .i64 (vvS s 0 k:Int) ((bn s k % 128*2 ^ (7*k):Nat):Int)=bits .or .i64 ((bn s k % 128*2 ^ (7*k):Nat):Int) (vvS s 0 k:Int):=by
  show IntKind.i64.wrap ((BitVec.ofInt 64 _ ||| BitVec.ofInt 64 _).toNat:Int)=IntKind.i64.wrap ((BitVec.ofInt 64 _ ||| BitVec.ofInt 64 _).toNat:Int)
  rw[BitVec.or_comm]
 rw[comm,j,e,Nat.add_comm]
theorem find_stop (s:ByteArray) (k:Nat) (hk:k<7) (hs:k<s.size) (hj:∀ j,j<k→128≤bn s j) (hc:bn s k<128) (hz:k=0∨bn s k≠0):FindV s (k+1) :=
 ⟨by omega,by omega,by omega,(canonS_char s k 0).2 ⟨by intro j h;rw[Nat.zero_add];exact hj j h,by rw[Nat.zero_add];exact hc,by rw[Nat.zero_add];exact hz⟩⟩
theorem find_zero (s:ByteArray) (k:Nat) (hj:∀ j,j<k→128≤bn s j) (hc:bn s k=0) (hk:0<k):∀ m,¬ FindV s m:=by
 rintro m ⟨h1,h2,h3,h4⟩
 obtain ⟨d,rfl⟩:∃ d,m=d+1:=⟨m - 1,by omega⟩
 obtain ⟨c1,c2,c3⟩:=(canonS_char s d 0).1 h4
 rw[Nat.zero_add] at c2 c3
 rcases Nat.lt_trichotomy d k with h | h | h
 ·have:=hj d h;omega
 ·subst h;omega
 ·have:=c1 k h;rw[Nat.zero_add] at this;omega
theorem find_end (s:ByteArray) (L:Nat) (hj:∀ j,j<L→128≤bn s j) (hL:7≤L∨s.size≤L):∀ m,¬ FindV s m:=by
 rintro m ⟨h1,h2,h3,h4⟩
 obtain ⟨d,rfl⟩:∃ d,m=d+1:=⟨m - 1,by omega⟩
 obtain ⟨c1,c2,c3⟩:=(canonS_char s d 0).1 h4
 rw[Nat.zero_add] at c2
 have:=hj d (by omega)
 omega
theorem ret_ints {a b c d:Int} (h:a=b) (h':c=d):Ending.returned (.tuple #[.int .i64 a,.int .i64 c])=.returned (.tuple #[.int .i64 b,.int .i64 d]):=by rw[h,h']
set_option maxHeartbeats 1000000 in
theorem impl_readVar_long (s:ByteArray) (w:World) (hs:s.size≤1048576) (h7:(7:Int)<(s.size:Int)) :
  Calls Tryz.prog 140 #[.string s] w fun e w'=>ReadV s e∧w=w':=by
 have q1:(s.size:Int)≤1048576:=by omega
 have hbt:=get_bn s
 go_enter Tryz.func140,Tryz.ntmps140
 go_wp2
 go_loop [4,10] (fun v4 v10=>∃ k:Nat,k≤7∧v10=.int .i64 k∧v4=.int .i64 (vvS s 0 k)∧Hid (∀ j,j<k→128≤bn s j)) (fun _ i=>7 - (intOf i).toNat)
 case atStart=>exact ⟨0,by omega,rfl,rfl,fun j hj=>absurd hj (by omega)⟩
 case round =>
  obtain ⟨k,hk,rfl,rfl,HJ⟩:=hrel
  by_cases hlt:k<7
  ·have r1:=bn_lt s k
   have HO:Hid (bits .or .i64 (vvS s 0 k:Int) (wrap64 ((bn s k:Int) % 128*2 ^ (7*k)))=(vvS s 0 (k+1):Int)):=vvS_or s k (by omega)
   by_cases hc:(128:Int)≤(bn s k:Int)
   ·go_wp2
    go_round
    case rel =>
     refine ⟨k+1,by omega,by go_num,by rw[HO.out],?_⟩
     intro j hj
     by_cases e:j=k
     ·subst e;omega
     ·exact HJ.out j (by omega)
    case measure=>simp[intOf];omega
   ·by_cases hz:bn s k=0
    ·by_cases hk0:k=0
     ·have HF:Hid (FindV s (k+1)):=find_stop s k (by omega) (by omega) HJ.out (by omega) (.inl hk0)
      have z1:((bn s k:Int) == 0)=true:=by simp;omega
      have z2:(k:Int)≤0:=by omega
      clear hk0 hz
      go_wp2
      go_ret2
      exact ⟨.inl ⟨k+1,HF.out,ret_ints HO.out (by omega)⟩,rfl⟩
     ·have HF:Hid (∀ m,¬ FindV s m):=find_zero s k HJ.out hz (by omega)
      have z1:((bn s k:Int) == 0)=true:=by simp;omega
      have z2:(0:Int)<(k:Int):=by omega
      clear hz
      go_wp2
      go_ret2
      exact ⟨.inr ⟨HF.out,rfl⟩,rfl⟩
    ·have HF:Hid (FindV s (k+1)):=find_stop s k (by omega) (by omega) HJ.out (by omega) (.inr hz)
     have z1:((bn s k:Int) == 0)=false:=by simp;omega
     go_wp2
     go_ret2
     exact ⟨.inl ⟨k+1,HF.out,ret_ints HO.out (by omega)⟩,rfl⟩
  ·have HF:Hid (∀ m,¬ FindV s m):=find_end s k HJ.out (by omega)
   go_wp2
   go_ret2
   exact ⟨.inr ⟨HF.out,rfl⟩,rfl⟩
set_option maxHeartbeats 1000000 in
theorem impl_readVar_short (s:ByteArray) (w:World) (hs:s.size≤1048576) (h7:(s.size:Int)≤7) :
  Calls Tryz.prog 140 #[.string s] w fun e w'=>ReadV s e∧w=w':=by
 have q1:(s.size:Int)≤1048576:=by omega
 have hbt:=get_bn s
 go_enter Tryz.func140,Tryz.ntmps140
 go_wp2
 go_loop [4,10] (fun v4 v10=>∃ k:Nat,k≤s.size∧v10=.int .i64 k∧v4=.int .i64 (vvS s 0 k)∧Hid (∀ j,j<k→128≤bn s j)) (fun _ i=>s.size - (intOf i).toNat)
 case atStart=>exact ⟨0,by omega,rfl,rfl,fun j hj=>absurd hj (by omega)⟩
 case round =>
  obtain ⟨k,hk,rfl,rfl,HJ⟩:=hrel
  by_cases hlt:k<s.size
  ·have r1:=bn_lt s k
   have HO:Hid (bits .or .i64 (vvS s 0 k:Int) (wrap64 ((bn s k:Int) % 128*2 ^ (7*k)))=(vvS s 0 (k+1):Int)):=vvS_or s k (by omega)
   by_cases hc:(128:Int)≤(bn s k:Int)
   ·go_wp2
    go_round
    case rel =>
     refine ⟨k+1,by omega,by go_num,by rw[HO.out],?_⟩
     intro j hj
     by_cases e:j=k
     ·subst e;omega
     ·exact HJ.out j (by omega)
    case measure=>simp[intOf];omega
   ·by_cases hz:bn s k=0
    ·by_cases hk0:k=0
     ·have HF:Hid (FindV s (k+1)):=find_stop s k (by omega) (by omega) HJ.out (by omega) (.inl hk0)
      have z1:((bn s k:Int) == 0)=true:=by simp;omega
      have z2:(k:Int)≤0:=by omega
      clear hk0 hz
      go_wp2
      go_ret2
      exact ⟨.inl ⟨k+1,HF.out,ret_ints HO.out (by omega)⟩,rfl⟩
     ·have HF:Hid (∀ m,¬ FindV s m):=find_zero s k HJ.out hz (by omega)
      have z1:((bn s k:Int) == 0)=true:=by simp;omega
      have z2:(0:Int)<(k:Int):=by omega
      clear hz
      go_wp2
      go_ret2
      exact ⟨.inr ⟨HF.out,rfl⟩,rfl⟩
    ·have HF:Hid (FindV s (k+1)):=find_stop s k (by omega) (by omega) HJ.out (by omega) (.inr hz)
     have z1:((bn s k:Int) == 0)=false:=by simp;omega
     go_wp2
     go_ret2
     exact ⟨.inl ⟨k+1,HF.out,ret_ints HO.out (by omega)⟩,rfl⟩
  ·have HF:Hid (∀ m,¬ FindV s m):=find_end s k HJ.out (by omega)
   go_wp2
   go_ret2
   exact ⟨.inr ⟨HF.out,rfl⟩,rfl⟩
theorem impl_readVar (s:ByteArray) (w:World) (hs:s.size≤1048576) :
  Calls Tryz.prog 140 #[.string s] w fun e w'=>ReadV s e∧w=w':=by
 by_cases h:(7:Int)<(s.size:Int)
 ·exact impl_readVar_long s w hs h
 ·exact impl_readVar_short s w hs (by omega)
theorem txt_list (l:List UInt8):(txt l).toList=l:=by rw[Lib.toList_data];simp[txt]
theorem var_eq (s:ByteArray) (k:Nat) (h1:1≤k) (h7:k≤7) (hk:k≤s.size):((txt (vF 6 (vvS s 0 k))).toList == (s.extract 0 k).toList)=true↔canonS s 0 k:=by
 obtain ⟨d,rfl⟩:∃ d,k=d+1:=⟨k - 1,by omega⟩
 rw[sg_extract s (d+1) hk,txt_list,txt_list,← canonS_iff s d 0 6 (by omega)]
 simp
set_option maxHeartbeats 1000000 in
theorem spec_readVar (s:ByteArray) (w:World) (hs:s.size≤1048576) :
  Calls Tryz.prog 111 #[.string s] w fun e w'=>ReadV s e∧Below w.heap.size w w':=by
 have q1:(s.size:Int)≤1048576:=by omega
 have hbt:=get_bn s
 go_enter Tryz.func111,Tryz.ntmps111
 go_wp2
 go_loopw [4] (fun v4 wr=>∃ k:Nat,1≤k∧k≤8∧v4=.int .i64 k∧Hid (∀ j,j<k→¬ FindV s j)∧Below w.heap.size w wr) (fun i _=>8 - (intOf i).toNat)
 case atStart=>exact ⟨1,by omega,by omega,rfl,(by intro j hj h;have:=h.1;omega),Below.refl _ _⟩
 case round =>
  obtain ⟨k,hk1,hk,rfl,HJ,hb⟩:=hrel
  by_cases hlt:k≤7
  ·by_cases hle:k≤s.size
   ·have c1:(k:Int)≤7:=by omega
    have c2:(k:Int)≤(s.size:Int):=by omega
    have hkv:=vvS_le s k hlt 0
    go_wp2
    go_loop [5,6] (fun v5 v6=>∃ j:Nat,j≤k∧v6=.int .i64 ((j:Int) - 1)∧v5=.int .i64 (vvS s j (k - j))) (fun _ i=>(intOf i+1).toNat)
    case atStart=>exact ⟨k,by omega,rfl,by rw[Nat.sub_self];rfl⟩
    case round =>
     obtain ⟨j,hj,rfl,rfl⟩:=hrel
     by_cases hj0:0<j
     ·have r1:=bn_lt s (j - 1)
      have r2:=vvS_le s (k - j) (by omega) j
      have hs0:vvS s (j - 1) (k - (j - 1))=bn s (j - 1) % 128+128*vvS s j (k - j):=by
       have e1:k - (j - 1)=(k - j)+1:=by omega
       have e2:j - 1+1=j:=by omega
       rw[e1,vvS,e2]
      have HS:Hid (vvS s (j - 1) (k - (j - 1))=bn s (j - 1) % 128+128*vvS s j (k - j)):=hs0
      clear hs0
      have e3:((j:Int) - 1).toNat=j - 1:=by omega
      go_wp2
      go_round
      case rel=>exact ⟨j - 1,by omega,by go_num,by rw[HS.out];go_num⟩
      case measure=>simp[intOf];omega
     ·have hj00:j=0:=by omega
      subst hj00
      rw[Nat.sub_zero]
      by_cases hcan:canonS s 0 k
      ·have hq:=(var_eq s k hk1 hlt hle).2 hcan
       have HF:Hid (FindV s k):=⟨hk1,hlt,hle,hcan⟩
       clear hcan
       go_wp2
       go_region_held3 (fun _=>True) (exact True.intro) ((go_at_call 89;refine (spec_var _ _ (by omega)).mono ?_;rintro e w1 ⟨rfl,hbv⟩))
       all_goals
        go_wp2
        go_ret2
        exact ⟨.inl ⟨k,HF.out,rfl⟩,hb.drew.trans (hbv.mono (by have:=hb.size;exact this))⟩
      ·have hq:((txt (vF 6 (vvS s 0 k))).toList == (s.extract 0 k).toList)=false:=by
        have:=mt (var_eq s k hk1 hlt hle).1 hcan
        simpa using this
       have HF:Hid (¬ FindV s k):=fun h=>hcan h.2.2.2
       clear hcan
       go_wp2
       go_region_held3 (fun _=>True) (exact True.intro) ((go_at_call 89;refine (spec_var _ _ (by omega)).mono ?_;rintro e w1 ⟨rfl,hbv⟩))
       all_goals
        go_wp2
        go_roundw
        case rel =>
         refine ⟨k+1,by omega,by omega,by go_num,?_,hb.drew.trans (hbv.mono (by have:=hb.size;exact this))⟩
         intro j hj
         by_cases e:j=k
         ·subst e;exact HF.out
         ·exact HJ.out j (by omega)
        case measure=>simp[intOf];omega
   ·have c1:(k:Int)≤7:=by omega
    have c2:decide ((k:Int)≤(s.size:Int))=false:=by simp;omega
    have HF:Hid (∀ m,¬ FindV s m):=by
     intro m hm
     by_cases e:m<k
     ·exact HJ.out m e hm
     ·have:=hm.2.2.1;omega
    go_wp2
    go_ret2
    exact ⟨.inr ⟨HF.out,rfl⟩,hb⟩
  ·have c1:(7:Int)<(k:Int):=by omega
   have HF:Hid (∀ m,¬ FindV s m):=by
    intro m hm
    by_cases e:m<k
    ·exact HJ.out m e hm
    ·have:=hm.2.1;omega
   go_wp2
   go_ret2
   exact ⟨.inr ⟨HF.out,rfl⟩,hb⟩
end Go.Proofs.YtedmdilabbolaaaGreatDoor
namespace Go.Proofs.YtedmdilabbolaaaGreatDoor
open Go.ChangeShapes Go.WideShapes Go.ChangeAt Go.RowKit Go.PlainAid
set_option linter.unusedVariables false
def zig (n:Int):Int:=if n < -140737488355328∨140737488355328<n then -1 else if n<0 then -2*n - 1 else 2*n
def unz (z:Int):Int:=if z<0∨281474976710656<z then 0 else if z % 2=1 then -((z+1) / 2) else z / 2
def zok (z:Int):Bool:=decide (0≤z∧z≤281474976710656)
theorem zig_range (n:Int):-1≤zig n∧zig n≤281474976710656:=by unfold zig;(repeat' split)<;>omega
theorem zig_pos (n:Int) (h1:-140737488355328≤n) (h2:n≤140737488355328):0≤zig n:=by unfold zig;(repeat' split)<;>omega
theorem unz_range (z:Int):-140737488355328≤unz z∧unz z≤140737488355328:=by unfold unz;(repeat' split)<;>omega
theorem unz_zig (n:Int) (h1:-140737488355328≤n) (h2:n≤140737488355328):unz (zig n)=n:=by
 unfold zig
 rw[if_neg (by omega)]
 by_cases h:n<0
 ·rw[if_pos h];unfold unz;rw[if_neg (by omega),if_pos (by omega)];omega
 ·rw[if_neg h];unfold unz;rw[if_neg (by omega),if_neg (by omega)];omega
theorem zig_unz (z:Int) (h1:0≤z) (h2:z≤281474976710656):zig (unz z)=z:=by
 unfold unz
 rw[if_neg (by omega)]
 by_cases h:z % 2=1
 ·rw[if_pos h];unfold zig;rw[if_neg (by omega),if_pos (by omega)];omega
 ·rw[if_neg h];unfold zig;rw[if_neg (by omega),if_neg (by omega)];omega
set_option maxHeartbeats 400000 in
theorem impl_zig (n:Int) (w:World) (hn1:-9223372036854775808≤n) (hn2:n≤9223372036854775807):Calls Tryz.prog 180 #[.int .i64 n] w fun e w'=>e=.returned (.int .i64 (zig n))∧w=w':=by
 by_cases h1:n < -140737488355328
 ·have e:zig n=-1:=by unfold zig;rw[if_pos (by omega)]
  rw[e]
  go_enter Tryz.func180,Tryz.ntmps180
  go_wp2
  go_ret
  exact ⟨rfl,rfl⟩
 by_cases h2:140737488355328<n
 ·have e:zig n=-1:=by unfold zig;rw[if_pos (by omega)]
  rw[e]
  go_enter Tryz.func180,Tryz.ntmps180
  go_wp2
  go_ret
  exact ⟨rfl,rfl⟩
 by_cases h3:n<0
 ·have e:zig n=-2*n - 1:=by unfold zig;rw[if_neg (by omega),if_pos h3]
  rw[e]
  go_enter Tryz.func180,Tryz.ntmps180
  go_wp2
  go_ret
  exact ⟨by go_num,rfl⟩
 ·have e:zig n=2*n:=by unfold zig;rw[if_neg (by omega),if_neg h3]
  rw[e]
  go_enter Tryz.func180,Tryz.ntmps180
  go_wp2
  go_ret
  exact ⟨by go_num,rfl⟩
set_option maxHeartbeats 400000 in
theorem spec_zig (n:Int) (w:World) (hn1:-9223372036854775808≤n) (hn2:n≤9223372036854775807):Calls Tryz.prog 152 #[.int .i64 n] w fun e w'=>e=.returned (.int .i64 (zig n))∧w=w':=by
 by_cases h1:n < -140737488355328∨140737488355328<n
 ·have e:zig n=-1:=by unfold zig;rw[if_pos h1]
  rw[e]
  have c:=fun wx=>in_no n (-140737488355328) 140737488355328 wx h1
  go_enter Tryz.func152,Tryz.ntmps152
  go_wp2_with (go_at_call 29;refine (c _).mono ?_;rintro e w' ⟨rfl,rfl⟩)
  go_ret
  exact ⟨rfl,rfl⟩
 have c:=fun wx=>in_yes n (-140737488355328) 140737488355328 wx (by omega) (by omega)
 by_cases h3:n<0
 ·have e:zig n=-2*n - 1:=by unfold zig;rw[if_neg (by omega),if_pos h3]
  rw[e]
  have q1:-140737488355328≤n:=by omega
  clear h1
  go_enter Tryz.func152,Tryz.ntmps152
  go_wp2_with (go_at_call 29;refine (c _).mono ?_;rintro e w' ⟨rfl,rfl⟩)
  go_ret
  exact ⟨by go_num,rfl⟩
 ·have e:zig n=2*n:=by unfold zig;rw[if_neg (by omega),if_neg h3]
  rw[e]
  have q1:n≤140737488355328:=by omega
  clear h1
  go_enter Tryz.func152,Tryz.ntmps152
  go_wp2_with (go_at_call 29;refine (c _).mono ?_;rintro e w' ⟨rfl,rfl⟩)
  go_ret
  exact ⟨by go_num,rfl⟩
set_option maxHeartbeats 400000 in
theorem impl_unz (z:Int) (w:World) (hn1:-9223372036854775808≤z) (hn2:z≤9223372036854775807):Calls Tryz.prog 174 #[.int .i64 z] w fun e w'=>e=.returned (.tuple #[.int .i64 (unz z),.bool (zok z)])∧w=w':=by
 by_cases h1:z<0
 ·have e:unz z=0:=by unfold unz;rw[if_pos (by omega)]
  have e2:zok z=false:=by unfold zok;exact decide_eq_false (by omega)
  rw[e,e2]
  go_enter Tryz.func174,Tryz.ntmps174
  go_wp2
  go_ret2
  exact ⟨rfl,rfl⟩
 by_cases h2:281474976710656<z
 ·have e:unz z=0:=by unfold unz;rw[if_pos (by omega)]
  have e2:zok z=false:=by unfold zok;exact decide_eq_false (by omega)
  rw[e,e2]
  go_enter Tryz.func174,Tryz.ntmps174
  go_wp2
  go_ret2
  exact ⟨rfl,rfl⟩
 have e2:zok z=true:=by unfold zok;exact decide_eq_true (by omega)
 have q0:0≤z:=by omega
 by_cases h3:z % 2=1
 ·have e:unz z=-((z+1) / 2):=by unfold unz;rw[if_neg (by omega),if_pos h3]
  have d1:Int.tdiv (-(z+1)) 2=-((z+1) / 2):=by rw[Int.neg_tdiv,Int.tdiv_eq_ediv_of_nonneg (by omega)]
  rw[e,e2]
  have d2:wrap64 (-(z+1))=-(z+1):=by unfold wrap64;omega
  go_enter Tryz.func174,Tryz.ntmps174
  go_wp2
  go_ret2
  exact ⟨by go_num,rfl⟩
 ·have e:unz z=z / 2:=by unfold unz;rw[if_neg (by omega),if_neg h3]
  rw[e,e2]
  go_enter Tryz.func174,Tryz.ntmps174
  go_wp2
  go_ret2
  exact ⟨by go_num,rfl⟩
set_option maxHeartbeats 400000 in
theorem spec_unz (z:Int) (w:World) (hn1:-9223372036854775808≤z) (hn2:z≤9223372036854775807):Calls Tryz.prog 169 #[.int .i64 z] w fun e w'=>e=.returned (.tuple #[.int .i64 (unz z),.bool (zok z)])∧w=w':=by
 by_cases h1:z<0
 ·have e:unz z=0:=by unfold unz;rw[if_pos (by omega)]
  have e2:zok z=false:=by unfold zok;exact decide_eq_false (by omega)
  rw[e,e2]
  go_enter Tryz.func169,Tryz.ntmps169
  go_wp2
  go_ret2
  exact ⟨rfl,rfl⟩
 by_cases h2:281474976710656<z
 ·have e:unz z=0:=by unfold unz;rw[if_pos (by omega)]
  have e2:zok z=false:=by unfold zok;exact decide_eq_false (by omega)
  rw[e,e2]
  go_enter Tryz.func169,Tryz.ntmps169
  go_wp2
  go_ret2
  exact ⟨rfl,rfl⟩
 have e2:zok z=true:=by unfold zok;exact decide_eq_true (by omega)
 have q0:0≤z:=by omega
 have c:=fun wx=>spec_zig (unz z) wx (by have:=unz_range z;omega) (by have:=unz_range z;omega)
 rw[zig_unz z (by omega) (by omega)] at c
 by_cases h3:z % 2=1
 ·have e:unz z=-(z / 2) - 1:=by unfold unz;rw[if_neg (by omega),if_pos h3];omega
  rw[e] at c
  rw[e,e2]
  go_enter Tryz.func169,Tryz.ntmps169
  go_wp2_with (go_at_call 152;refine (c _).mono ?_;rintro e w' ⟨rfl,rfl⟩)
  go_ret2
  exact ⟨by go_num,rfl⟩
 ·have e:unz z=z / 2:=by unfold unz;rw[if_neg (by omega),if_neg h3]
  rw[e] at c
  rw[e,e2]
  go_enter Tryz.func169,Tryz.ntmps169
  go_wp2_with (go_at_call 152;refine (c _).mono ?_;rintro e w' ⟨rfl,rfl⟩)
  go_ret2
  exact ⟨by go_num,rfl⟩
end Go.Proofs.YtedmdilabbolaaaGreatDoor
namespace Go.Proofs.YtedmdilabbolaaaGreatDoor
open Go.RowKit Go.PlainAid
def prv (l:List Int) (k:Nat):Int:=if k=0 then 0 else l.getD (k - 1) 0
def dif (l:List Int) (k:Nat):Int:=l.getD k 0 - prv l k
theorem prv_succ (l:List Int) (k:Nat):prv l (k+1)=l.getD k 0:=by simp[prv]
def vPiece (l:List Int) (i:Nat):List UInt8:=vF 6 (zig (dif l i)).toNat
def turn (l:List Int) (i:Nat):Int:=if i≤1 then dif l i else zig (dif l i - dif l (i - 1))
def tPiece (l:List Int) (i:Nat):List UInt8:=vF 6 (turn l i).toNat
def cat (f:Nat→List UInt8) (k:Nat):List UInt8:=(List.range k).flatMap f
theorem cat_zero (f:Nat→List UInt8):cat f 0=[]:=rfl
theorem cat_succ (f:Nat→List UInt8) (k:Nat):cat f (k+1)=cat f k++f k:=by simp[cat,List.range_succ,List.flatMap_append]
theorem cat_length (f:Nat→List UInt8) (hf:∀ i,(f i).length≤7) (k:Nat):(cat f k).length≤7*k:=by
 induction k with
 | zero=>simp[cat_zero]
 | succ k ih=>rw[cat_succ,List.length_append];have:=hf k;omega
theorem vPiece_length (l:List Int) (i:Nat):(vPiece l i).length≤7:=by have:=vF_length 6 (zig (dif l i)).toNat;unfold vPiece;omega
theorem tPiece_length (l:List Int) (i:Nat):(tPiece l i).length≤7:=by have:=vF_length 6 (turn l i).toNat;unfold tPiece;omega
def VOk (l:List Int):Prop:=1≤l.length∧l.length≤60∧∀ j,j<l.length→-1099511627776≤l.getD j 0∧l.getD j 0≤1099511627776
instance (l:List Int):Decidable (VOk l):=by unfold VOk;infer_instance
def TOk (l:List Int):Prop:=1≤l.length∧l.length≤60∧∀ j,j<l.length→(0≤l.getD j 0∧l.getD j 0≤1099511627776)∧(0<j→l.getD (j - 1) 0<l.getD j 0)
instance (l:List Int):Decidable (TOk l):=by unfold TOk;infer_instance
def showV (l:List Int):ByteArray:=if VOk l then txt (cat (vPiece l) l.length) else txt []
def showT (l:List Int):ByteArray:=if TOk l then txt (cat (tPiece l) l.length) else txt []
theorem VOk.prv {l:List Int} (h:VOk l) (j:Nat) (hj:j≤l.length):-1099511627776≤prv l j∧prv l j≤1099511627776:=by
 unfold Go.Proofs.YtedmdilabbolaaaGreatDoor.prv
 split
 ·omega
 ·exact h.2.2 (j - 1) (by omega)
theorem VOk.dif {l:List Int} (h:VOk l) (j:Nat) (hj:j<l.length):-2199023255552≤dif l j∧dif l j≤2199023255552:=by
 have h1:=h.prv j (by omega)
 have h2:=h.2.2 j hj
 unfold Go.Proofs.YtedmdilabbolaaaGreatDoor.dif
 omega
theorem TOk.prv {l:List Int} (h:TOk l) (j:Nat) (hj:j≤l.length):0≤prv l j∧prv l j≤1099511627776:=by
 unfold Go.Proofs.YtedmdilabbolaaaGreatDoor.prv
 split
 ·omega
 ·exact (h.2.2 (j - 1) (by omega)).1
theorem TOk.dif {l:List Int} (h:TOk l) (j:Nat) (hj:j<l.length):0≤dif l j∧dif l j≤1099511627776:=by
 have h1:=h.prv j (by omega)
 have h2:=h.2.2 j hj
 unfold Go.Proofs.YtedmdilabbolaaaGreatDoor.dif
 refine ⟨?_,by omega⟩
 unfold Go.Proofs.YtedmdilabbolaaaGreatDoor.prv
 split
 ·omega
 ·have:=h2.2 (by omega)
  omega
theorem TOk.turn {l:List Int} (h:TOk l) (j:Nat) (hj:j<l.length):0≤turn l j∧turn l j≤281474976710656:=by
 unfold Go.Proofs.YtedmdilabbolaaaGreatDoor.turn
 have h1:=h.dif j hj
 split
 ·omega
 ·have h2:=h.dif (j - 1) (by omega)
  exact ⟨zig_pos _ (by omega) (by omega),(zig_range _).2⟩
end Go.Proofs.YtedmdilabbolaaaGreatDoor
namespace Go.Proofs.YtedmdilabbolaaaGreatDoor
open Go.ChangeShapes Go.WideShapes Go.ChangeAt Go.RowKit Go.PlainAid
set_option linter.unusedVariables false
def Rd (s:ByteArray):Nat→List Int→Nat→Prop
 | 0,l,n=>l=[]∧n=0
 | k+1,l,n=>∃ l' n' m,Rd s k l' n'∧FindV (s.extract n' s.size) m∧l=l'++[(vvS (s.extract n' s.size) 0 m:Int)]∧n=n'+m
def RdNo (s:ByteArray) (k:Nat):Prop:=∃ j l n,j<k∧Rd s j l n∧∀ m,¬ FindV (s.extract n s.size) m
theorem Rd.one {s:ByteArray}:∀ {k:Nat} {l l':List Int} {n n':Nat},Rd s k l n→Rd s k l' n'→l=l'∧n=n'
 | 0,_,_,_,_,h,h'=>⟨h.1.trans h'.1.symm,h.2.trans h'.2.symm⟩
 | k+1,_,_,_,_,⟨a,b,m,h1,h2,h3,h4⟩,⟨a',b',m',h1',h2',h3',h4'⟩=>by
  obtain ⟨rfl,rfl⟩:=Rd.one h1 h1'
  have:=h2.one h2'
  subst this
  exact ⟨h3.trans h3'.symm,h4.trans h4'.symm⟩
theorem Rd.before {s:ByteArray}:∀ {k:Nat} {l:List Int} {n:Nat},Rd s k l n→∀ j,j<k→∃ l' n' m,Rd s j l' n'∧FindV (s.extract n' s.size) m
 | 0,_,_,_,j,hj=>by omega
 | k+1,_,_,⟨a,b,m,h1,h2,h3,h4⟩,j,hj=>by
  by_cases e:j=k
  ·subst e;exact ⟨a,b,m,h1,h2⟩
  ·exact Rd.before h1 j (by omega)
theorem Rd.no {s:ByteArray} {k:Nat} {l:List Int} {n:Nat} (h:Rd s k l n):¬ RdNo s k:=by
 rintro ⟨j,l',n',hj,h1,h2⟩
 obtain ⟨l2,n2,m,h3,h4⟩:=h.before j hj
 obtain ⟨rfl,rfl⟩:=h1.one h3
 exact h2 m h4
theorem Rd.length {s:ByteArray}:∀ {k:Nat} {l:List Int} {n:Nat},Rd s k l n→l.length=k
 | 0,_,_,h=>by rw[h.1];rfl
 | k+1,_,_,⟨a,b,m,h1,h2,h3,h4⟩=>by rw[h3,List.length_append,Rd.length h1];rfl
theorem Rd.le {s:ByteArray}:∀ {k:Nat} {l:List Int} {n:Nat},Rd s k l n→k≤n∧n≤s.size
 | 0,_,_,h=>by rw[h.2];omega
 | k+1,_,_,⟨a,b,m,h1,h2,h3,h4⟩=>by
  have h5:=Rd.le h1
  obtain ⟨h6,h7,h8,_⟩:=h2
  rw[ByteArray.size_extract] at h8
  omega
theorem Rd.bound {s:ByteArray}:∀ {k:Nat} {l:List Int} {n:Nat},Rd s k l n→∀ z∈l,0≤z∧z≤562949953421311
 | 0,_,_,h,z,hz=>by rw[h.1] at hz;cases hz
 | k+1,_,_,⟨a,b,m,h1,h2,h3,h4⟩,z,hz=>by
  rw[h3] at hz
  rcases List.mem_append.1 hz with hz | hz
  ·exact Rd.bound h1 z hz
  ·simp at hz
   have:=vvS_le (s.extract b s.size) m h2.2.1 0
   omega
theorem Rd.boundD {s:ByteArray} {k:Nat} {l:List Int} {n:Nat} (h:Rd s k l n) (j:Nat):0≤l.getD j 0∧l.getD j 0≤562949953421311:=by
 by_cases hj:j<l.length
 ·refine h.bound _ ?_
  simp[List.getD,hj]
 ·simp[List.getD,hj]
set_option maxHeartbeats 1000000 in
theorem implReadVars (s:ByteArray) (k0:Nat) (w:World) (hs:s.size≤1048576) (h1:1≤k0) (h2:k0≤60) :
  Calls Tryz.prog 161 #[.string s,.int .i64 (k0:Int)] w fun e w'=>((∃ l n u,Rd s k0 l n∧e=.returned (.tuple #[u,.int .i64 (n:Int)])∧Nums w' w.heap.size u l)∨(RdNo s k0∧e=.returned (.tuple #[.slice none 0 0,.int .i64 0])))∧Below w.heap.size w w':=by
 have q1:(1:Int)≤(k0:Int):=by omega
 have q2:(k0:Int)≤60:=by omega
 have HS:Hid (s.size≤1048576):=hs
 have q3:(s.size:Int)≤1048576:=by omega
 clear hs
 go_enter Tryz.func161,Tryz.ntmps161
 go_wp2_with fail
 go_loopw [6,7,17] (fun v6 v7 v17 wr=>∃ (k n:Nat) (l:List Int),k≤k0∧n≤s.size∧v17=.int .i64 (k:Int)∧v7=.int .i64 (n:Int)∧Hid (Rd s k l n)∧Nums wr w.heap.size v6 l∧Below w.heap.size w wr) (fun _ _ i _=>k0 - (intOf i).toNat)
 case atStart=>exact ⟨0,0,[],by omega,by omega,rfl,rfl,⟨rfl,rfl⟩,Nums.nil _ _,Below.refl _ _⟩
 case round =>
  obtain ⟨k,n,l,hk,hns,rfl,rfl,HR,hN,hb⟩:=hrel
  have HN:Hid (Nums wr w.heap.size _ l):=hN
  obtain ⟨A,c,rfl,_,_⟩:=hN.shape
  have HB:Hid (Below w.heap.size w wr):=hb
  have hln:=HR.out.length
  have HLN:Hid (l.length≤2097152):=by unfold Hid;omega
  clear hN hb
  by_cases hlt:k<k0
  ·have q4:(k:Int)<(k0:Int):=by omega
   have q5:(n:Int)≤(s.size:Int):=by omega
   have hsx:(s.extract n s.size).size≤1048576:=by rw[ByteArray.size_extract];have:=HS.out;omega
   have c:=fun wx=>impl_readVar (s.extract n s.size) wx hsx
   have HX:Hid (∀ m,FindV (s.extract n s.size) m→m≤s.size - n):=fun m hm=>by have:=hm.2.2.1;rw[ByteArray.size_extract] at this;omega
   clear hsx hln
   go_wp2_with fail
   refine (c _).mono ?_
   generalize hsx':s.extract n s.size=sx at *
   have HSX:Hid (s.extract n s.size=sx):=hsx'
   clear hsx'
   rintro e w1 ⟨hR,rfl⟩
   rcases hR with ⟨m,hm,rfl⟩ | ⟨hno,rfl⟩
   ·have hmx:=HX.out m hm
    have hm1:=hm.1
    have hm7:=hm.2.1
    have q6:(m:Int)≤7:=by omega
    have q7:(1:Int)≤(m:Int):=by omega
    have q8:¬ (m:Int)=0:=by omega
    have q9:¬ m=0:=by omega
    have HM:Hid (FindV sx m):=hm
    have HZ:Hid (w.heap.size≤wr.heap.size):=HB.out.size
    generalize hz:(vvS sx 0 m:Int)=z at *
    have HR2:Hid (Rd s (k+1) (l++[z]) (n+m)):=by
     refine ⟨l,n,m,HR.out,?_,?_,rfl⟩
     ·rw[HSX.out];exact HM.out
     ·rw[HSX.out,hz]
    clear hz hm
    go_wp2_with (at_builtin;refine wpList_append_num rfl (.tmp 28) (.tmp 30) 22 rfl Tryz.underlying22 Tryz.infoInt w.heap.size _ l rfl HN.out z rfl HLN.out HZ.out ?_;intro v' w1 hN1 hb1 hk1)
    go_roundw
    case rel=>exact ⟨k+1,n+m,l++[z],by omega,by omega,by go_num,by go_num,HR2,hN1,HB.out.trans hb1⟩
    case measure=>simp[intOf];omega
   ·have HNO:Hid (RdNo s k0):=⟨k,l,n,hlt,HR.out,by rw[HSX.out];exact hno⟩
    clear hno
    go_wp2_with fail
    go_ret2
    exact ⟨.inr ⟨HNO.out,rfl⟩,HB.out⟩
  ·obtain rfl:k=k0:=by omega
   go_wp2_with fail
   go_ret2
   exact ⟨.inl ⟨l,n,_,HR.out,rfl,HN.out⟩,HB.out⟩
set_option maxHeartbeats 1000000 in
theorem implReadVars_no (s:ByteArray) (n:Int) (w:World) (h:n<1∨60<n):Calls Tryz.prog 161 #[.string s,.int .i64 n] w fun e w'=>e=.returned (.tuple #[.slice none 0 0,.int .i64 0])∧w=w':=by
 by_cases h1:n<1
 ·go_enter Tryz.func161,Tryz.ntmps161
  go_wp2_with fail
  go_ret2
  exact ⟨rfl,rfl⟩
 ·have h2:60<n:=by omega
  clear h
  go_enter Tryz.func161,Tryz.ntmps161
  go_wp2_with fail
  go_ret2
  exact ⟨rfl,rfl⟩
set_option maxHeartbeats 1000000 in
theorem specReadVars (s:ByteArray) (k0:Nat) (w:World) (hs:s.size≤1048576) (h1:1≤k0) (h2:k0≤60) :
  Calls Tryz.prog 146 #[.string s,.int .i64 (k0:Int)] w fun e w'=>((∃ l n u,Rd s k0 l n∧e=.returned (.tuple #[u,.int .i64 (n:Int)])∧Nums w' w.heap.size u l)∨(RdNo s k0∧∃ u,e=.returned (.tuple #[u,.int .i64 (-1)])))∧Below w.heap.size w w':=by
 have q1:(1:Int)≤(k0:Int):=by omega
 have q2:(k0:Int)≤60:=by omega
 have HS:Hid (s.size≤1048576):=hs
 have q3:(s.size:Int)≤1048576:=by omega
 clear hs
 go_enter Tryz.func146,Tryz.ntmps146
 go_wp2_with fail
 go_loopw [6,7,8] (fun v6 v7 v8 wr=>∃ (k n:Nat) (l:List Int),k≤k0∧n≤s.size∧v8=.int .i64 (k:Int)∧v7=.int .i64 (n:Int)∧Hid (Rd s k l n)∧Nums wr w.heap.size v6 l∧Below w.heap.size w wr) (fun _ _ i _=>k0 - (intOf i).toNat)
 case atStart=>exact ⟨0,0,[],by omega,by omega,rfl,rfl,⟨rfl,rfl⟩,Nums.empty _ _ (Nat.le_refl _),(Below.refl _ _).alloc (Nat.le_refl _) _⟩
 case round =>
  obtain ⟨k,n,l,hk,hns,rfl,rfl,HR,hN,hb⟩:=hrel
  have HN:Hid (Nums wr w.heap.size _ l):=hN
  obtain ⟨A,c,rfl,_,_⟩:=hN.shape
  have HB:Hid (Below w.heap.size w wr):=hb
  have hln:=HR.out.length
  have HLN:Hid (l.length≤2097152):=by unfold Hid;omega
  clear hN hb
  by_cases hlt:k<k0
  ·have q4:(k:Int)<(k0:Int):=by omega
   have q5:(n:Int)≤(s.size:Int):=by omega
   have hsx:(s.extract n s.size).size≤1048576:=by rw[ByteArray.size_extract];have:=HS.out;omega
   have c:=fun wx=>spec_readVar (s.extract n s.size) wx hsx
   have HX:Hid (∀ m,FindV (s.extract n s.size) m→m≤s.size - n):=fun m hm=>by have:=hm.2.2.1;rw[ByteArray.size_extract] at this;omega
   clear hsx hln
   go_wp2_with fail
   refine (c _).mono ?_
   generalize hsx':s.extract n s.size=sx at *
   have HSX:Hid (s.extract n s.size=sx):=hsx'
   clear hsx'
   rintro e w1 ⟨hR,hb1⟩
   have HB1:Hid (Below w.heap.size w w1):=HB.out.trans (hb1.mono HB.out.size)
   have HN1:Hid (Nums w1 w.heap.size (.slice A l.length _) l):=HN.out.on hb1
   clear hb1
   rcases hR with ⟨m,hm,rfl⟩ | ⟨hno,rfl⟩
   ·have hmx:=HX.out m hm
    have hm1:=hm.1
    have hm7:=hm.2.1
    have q6:(m:Int)≤7:=by omega
    have q7:(1:Int)≤(m:Int):=by omega
    have q8:¬ (m:Int)=0:=by omega
    have q9:¬ m=0:=by omega
    have HM:Hid (FindV sx m):=hm
    have HZ:Hid (w.heap.size≤w1.heap.size):=HB1.out.size
    generalize hz:(vvS sx 0 m:Int)=z at *
    have HR2:Hid (Rd s (k+1) (l++[z]) (n+m)):=by
     refine ⟨l,n,m,HR.out,?_,?_,rfl⟩
     ·rw[HSX.out];exact HM.out
     ·rw[HSX.out,hz]
    clear hz hm
    go_wp2_with (at_builtin;refine wpList_append_num rfl (.tmp 27) (.tmp 29) 22 rfl Tryz.underlying22 Tryz.infoInt w.heap.size _ l rfl HN1.out z rfl HLN.out HZ.out ?_;intro v' w2 hN2 hb2 hk2)
    go_roundw
    case rel=>exact ⟨k+1,n+m,l++[z],by omega,by omega,by go_num,by go_num,HR2,hN2,HB1.out.trans hb2⟩
    case measure=>simp[intOf];omega
   ·have HNO:Hid (RdNo s k0):=⟨k,l,n,hlt,HR.out,by rw[HSX.out];exact hno⟩
    clear hno
    go_wp2_with fail
    go_ret2
    exact ⟨.inr ⟨HNO.out,_,rfl⟩,HB1.out⟩
  ·obtain rfl:k=k0:=by omega
   go_wp2_with fail
   go_ret2
   exact ⟨.inl ⟨l,n,_,HR.out,rfl,HN.out⟩,HB.out⟩
end Go.Proofs.YtedmdilabbolaaaGreatDoor
namespace Go.Proofs.YtedmdilabbolaaaGreatDoor
open Go.ChangeShapes Go.WideShapes Go.ChangeAt Go.RowKit Go.PlainAid
set_option linter.unusedVariables false
def mix (f:Nat→Int) (v:List Int) (m:Nat):List Int:=(List.range v.length).map fun i=>if i<m then f i else v.getD i 0
theorem mix_length (f:Nat→Int) (v:List Int) (m:Nat):(mix f v m).length=v.length:=by simp[mix]
theorem mix_get (f:Nat→Int) (v:List Int) (m j:Nat) (h:j<v.length):(mix f v m).getD j 0=if j<m then f j else v.getD j 0:=by
 unfold mix
 rw[List.getD_eq_getElem?_getD,List.getElem?_map,List.getElem?_range h]
 rfl
theorem mix_set (f:Nat→Int) (v:List Int) (m:Nat) (h:m<v.length):(mix f v m).set m (f m)=mix f v (m+1):=by
 apply nums_ext
 ·rw[List.length_set,mix_length,mix_length]
 ·intro j hj
  rw[List.length_set,mix_length] at hj
  rw[mix_get f v (m+1) j hj]
  by_cases e:m=j
  ·subst e
   rw[getD_set_same _ _ _ (by rw[mix_length];exact h),if_pos (by omega)]
  ·rw[getD_set_ne _ _ _ _ e,mix_get f v m j hj]
   by_cases h2:j<m
   ·rw[if_pos h2,if_pos (by omega)]
   ·rw[if_neg h2,if_neg (by omega)]
theorem mix_start (f:Nat→Int) (v:List Int) (m:Nat) (h:∀ i,i<m→i<v.length→f i=v.getD i 0):mix f v m=v:=by
 apply nums_ext
 ·rw[mix_length]
 ·intro j hj
  rw[mix_length] at hj
  rw[mix_get f v m j hj]
  split
  ·exact h j (by assumption) hj
  ·rfl
def rowOf (f:Nat→Int) (n:Nat):List Int:=(List.range n).map f
theorem rowOf_length (f:Nat→Int) (n:Nat):(rowOf f n).length=n:=by simp[rowOf]
theorem rowOf_get (f:Nat→Int) (n j:Nat) (h:j<n):(rowOf f n).getD j 0=f j:=by simp[rowOf,List.getD,h]
theorem rowOf_succ (f:Nat→Int) (n:Nat):rowOf f (n+1)=rowOf f n++[f n]:=by simp[rowOf,List.range_succ]
theorem mix_all (f:Nat→Int) (v:List Int) (m:Nat) (h:v.length≤m):mix f v m=rowOf f v.length:=by
 apply nums_ext
 ·rw[mix_length,rowOf_length]
 ·intro j hj
  rw[mix_length] at hj
  rw[mix_get f v m j hj,rowOf_get f _ j hj,if_pos (by omega)]
def uzF (off:Nat) (v:List Int) (i:Nat):Int:=if off≤i then unz (v.getD i 0) else v.getD i 0
def auF (off:Nat) (v:List Int):Nat→Int
 | 0=>v.getD 0 0
 | i+1=>if i+1≤off then v.getD (i+1) 0 else auF off v i+v.getD (i+1) 0
theorem auF_le (off:Nat) (v:List Int) (i:Nat) (h:i≤off):auF off v i=v.getD i 0:=by
 cases i with
 | zero=>rfl
 | succ i=>rw[auF,if_pos h]
theorem auF_gt (off:Nat) (v:List Int) (i:Nat) (h:off<i):auF off v i=auF off v (i - 1)+v.getD i 0:=by
 cases i with
 | zero=>omega
 | succ i=>rw[auF,if_neg (by omega)];rfl
set_option maxHeartbeats 1000000 in
theorem unzigAllV (off m:Nat) (l:List Int) (g cap base n:Nat) (A:Option Addr) (c:Nat) (w:World) (hN:Nums w base (.slice (some ⟨g,0,none⟩) n cap) l) (hl:l.length=off+m) (hA:0<m→A=some ⟨g,off,none⟩) (hm:m≤1000) (hg:base≤g)
  (hb:∀ j,-9223372036854775808≤l.getD j 0∧l.getD j 0≤9223372036854775807) :
  Calls Tryz.prog 162 #[.slice A m c] w fun e w'=>(∃ u,e=.returned u)∧Nums w' base (.slice (some ⟨g,0,none⟩) n cap) (rowOf (uzF off l) l.length)∧Below base w w':=by
 have HN:Hid (Nums w base (.slice (some ⟨g,0,none⟩) n cap) l):=hN
 have HL:Hid (l.length=off+m):=hl
 have HA:Hid (0<m→A=some ⟨g,off,none⟩):=hA
 have HG:Hid (base≤g):=hg
 have HB:Hid (∀ j,-9223372036854775808≤l.getD j 0∧l.getD j 0≤9223372036854775807):=hb
 have q1:(m:Int)≤1000:=by omega
 clear hN hl hA hg hb
 go_enter Tryz.func162,Tryz.ntmps162
 go_wp2_with fail
 go_loopw [6] (fun v6 wr=>∃ k:Nat,k≤m∧v6=.int .i64 (k:Int)∧Nums wr base (.slice (some ⟨g,0,none⟩) n cap) (mix (uzF off l) l (off+k))∧Below base w wr) (fun i _=>m - (intOf i).toNat)
 case atStart =>
  refine ⟨0,by omega,rfl,?_,Below.refl _ _⟩
  rw[mix_start _ _ _ (fun i hi _=>by unfold uzF;rw[if_neg (by omega)])]
  exact HN.out
 case round =>
  obtain ⟨k,hk,rfl,hN1,hb1⟩:=hrel
  have HB1:Hid (Below base w wr):=hb1
  have HN1:Hid (Nums wr base (.slice (some ⟨g,0,none⟩) n cap) (mix (uzF off l) l (off+k))):=hN1
  clear hb1
  by_cases hlt:k<m
  ·have q2:(k:Int)<(m:Int):=by omega
   have hA:=HA.out (by omega)
   subst hA
   have hkl:off+k<l.length:=by rw[HL.out];omega
   have e1:=hN1.cell (off+k) (by rw[mix_length];exact hkl)
   rw[mix_get _ _ _ _ hkl,if_neg (by omega)] at e1
   have e2:=hN1.frozen (off+k)
   have hbk:=HB.out (off+k)
   have cu:=fun wx=>impl_unz (l.getD (off+k) 0) wx hbk.1 hbk.2
   have hS:=hN1.stored (off+k) (unz (l.getD (off+k) 0))
   rw[show unz (l.getD (off+k) 0)=uzF off l (off+k) by unfold uzF;rw[if_pos (by omega)],mix_set _ _ _ hkl] at hS
   rw[show uzF off l (off+k)=unz (l.getD (off+k) 0) by unfold uzF;rw[if_pos (by omega)]] at hS
   have HS:Hid (Nums (wr.setCell ⟨g,off+k,none⟩ (.int .i64 (unz (l.getD (off+k) 0)))) base (.slice (some ⟨g,0,none⟩) n cap) (mix (uzF off l) l (off+k+1))):=hS
   clear hS hN1 hkl hbk
   generalize zok (l.getD (off+k) 0)=zk at *
   generalize unz (l.getD (off+k) 0)=y at *
   generalize l.getD (off+k) 0=x at *
   go_wp2_with fail
   refine (cu _).mono ?_
   rintro e w1 ⟨rfl,rfl⟩
   go_wp2_with fail
   go_roundw
   case rel=>exact ⟨k+1,by omega,by go_num,HS.out,HB1.out.setCell HG.out _⟩
   case measure=>simp[intOf];omega
  ·obtain rfl:k=m:=by omega
   clear hN1
   go_wp2_with fail
   have h:=HN1.out
   rw[mix_all _ _ _ (by rw[HL.out];omega)] at h
   exact bodyPost_end (v:=.tuple #[]) (by simp[results,go_sem]) rfl ⟨⟨_,rfl⟩,h,HB1.out⟩
set_option maxHeartbeats 1000000 in
theorem addUpV (off m:Nat) (l:List Int) (g cap base n:Nat) (A:Option Addr) (c:Nat) (w:World) (hN:Nums w base (.slice (some ⟨g,0,none⟩) n cap) l) (hl:l.length=off+m) (hA:0<m→A=some ⟨g,off,none⟩) (hm:m≤1000) (hg:base≤g)
  (hb:∀ j,j<l.length→-4611686018427387904≤auF off l j∧auF off l j≤4611686018427387904) :
  Calls Tryz.prog 163 #[.slice A m c] w fun e w'=>(∃ u,e=.returned u)∧Nums w' base (.slice (some ⟨g,0,none⟩) n cap) (rowOf (auF off l) l.length)∧Below base w w':=by
 have HN:Hid (Nums w base (.slice (some ⟨g,0,none⟩) n cap) l):=hN
 have HL:Hid (l.length=off+m):=hl
 have HA:Hid (0<m→A=some ⟨g,off,none⟩):=hA
 have HG:Hid (base≤g):=hg
 have HB:Hid (∀ j,j<l.length→-4611686018427387904≤auF off l j∧auF off l j≤4611686018427387904):=hb
 have q1:(m:Int)≤1000:=by omega
 clear hN hl hA hg hb
 go_enter Tryz.func163,Tryz.ntmps163
 go_wp2_with fail
 go_loopw [2] (fun v2 wr=>∃ k:Nat,1≤k∧(k≤m∨k=1)∧v2=.int .i64 (k:Int)∧Nums wr base (.slice (some ⟨g,0,none⟩) n cap) (mix (auF off l) l (off+k))∧Below base w wr) (fun i _=>m - (intOf i).toNat)
 case atStart =>
  refine ⟨1,by omega,by omega,rfl,?_,Below.refl _ _⟩
  rw[mix_start _ _ _ (fun i hi _=>auF_le off l i (by omega))]
  exact HN.out
 case round =>
  obtain ⟨k,hk1,hk,rfl,hN1,hb1⟩:=hrel
  have HB1:Hid (Below base w wr):=hb1
  have HN1:Hid (Nums wr base (.slice (some ⟨g,0,none⟩) n cap) (mix (auF off l) l (off+k))):=hN1
  clear hb1
  by_cases hlt:k<m
  ·have q2:(k:Int)<(m:Int):=by omega
   have q3:(1:Int)≤(k:Int):=by omega
   have hA:=HA.out (by omega)
   subst hA
   have hkl:off+k<l.length:=by rw[HL.out];omega
   have e1:=hN1.cell (off+k) (by rw[mix_length];exact hkl)
   rw[mix_get _ _ _ _ hkl,if_neg (by omega)] at e1
   have e0:=hN1.cell (off+(k - 1)) (by rw[mix_length];omega)
   rw[mix_get _ _ _ _ (by omega),if_pos (by omega)] at e0
   have e2:=hN1.frozen (off+k)
   have hbk:=HB.out (off+k) hkl
   have hbj:=HB.out (off+(k - 1)) (by omega)
   have ef:=auF_gt off l (off+k) (by omega)
   rw[show off+k - 1=off+(k - 1) by omega] at ef
   have hS:=hN1.stored (off+k) (auF off l (off+k))
   rw[mix_set _ _ _ hkl] at hS
   have ef2:auF off l (off+k)=l.getD (off+k) 0+auF off l (off+(k - 1)):=by omega
   rw[ef2] at hS hbk
   have HS:Hid (Nums (wr.setCell ⟨g,off+k,none⟩ (.int .i64 (l.getD (off+k) 0+auF off l (off+(k - 1))))) base (.slice (some ⟨g,0,none⟩) n cap) (mix (auF off l) l (off+k+1))):=hS
   clear hS hN1 hkl ef ef2
   generalize auF off l (off+(k - 1))=y at *
   generalize l.getD (off+k) 0=x at *
   have g1:IntKind.i64.wrap ((k:Int) - 1)=(k:Int) - 1:=by rw[IntKind.wrap_i64];omega
   have g3:(0:Int)≤(k:Int) - 1:=by omega
   have g4:(k:Int) - 1<(m:Int):=by omega
   have g5:((k:Int) - 1).toNat=k - 1:=by omega
   have g7:IntKind.i64.wrap (x+y)=x+y:=by rw[IntKind.wrap_i64];omega
   have S0:Hid (wr.cell? ⟨g,off+k,none⟩=some (.int .i64 x)∧wr.cell? ⟨g,off+(k - 1),none⟩=some (.int .i64 y)):=⟨e1,e0⟩
   go_wp2_with fail
   refine wp_region_until (fun w'=>w'.cell? ⟨g,off+k,none⟩=some (.int .i64 x)∧w'.cell? ⟨g,off+(k - 1),none⟩=some (.int .i64 y)) (fun i=>i == 11) 12 (by rfl) (by kernel_rfl) ?_
   refine tKf 0 S0.out ?_
   refine tKf 1 S0.out ?_
   refine tKf 2 S0.out ?_
   refine tKf 3 S0.out ?_
   refine tKf 4 S0.out ?_
   refine tKf 5 S0.out ?_
   refine tKf 6 S0.out ?_
   refine tKf 7 S0.out ?_
   refine tKf 8 S0.out ?_
   refine tKf 9 S0.out ?_
   refine tKf 10 S0.out ?_
   refine uNe 11 (fun K hK=>?_)
   go_simp
   go_wp2_with fail
   refine hK.out _ _ (fun h=>absurd h (by decide)) ?_
   clear hK K
   try simp only[Act.put,zQ1,zQ2,zQ3]
   refine until_done (by kernel_rfl) ?_ _
   go_wp2_with fail
   go_roundw
   case rel=>exact ⟨k+1,by omega,by omega,by go_num,HS.out,(HB1.out.setCell (p:=⟨g,off+k,none⟩) HG.out (.int .i64 (x+y))).drew⟩
   case measure=>simp[intOf];omega
  ·clear hN1
   have q2:(m:Int)≤(k:Int):=by omega
   go_wp2_with fail
   have h:=HN1.out
   rw[mix_all _ _ _ (by rw[HL.out];omega)] at h
   exact bodyPost_end (v:=.tuple #[]) (by simp[results,go_sem]) rfl ⟨⟨_,rfl⟩,h,HB1.out⟩
end Go.Proofs.YtedmdilabbolaaaGreatDoor
