/- RtMk MgLaw RtMsN LawRouterSay -/
import Derived.Test.YtedmdilabbolaaaGreatDoorRows
import Derived.Test.YtedmdilabbolaaaGreatDoorQz1
import Derived.Test.YtedmdilabbolaaaGreatDoorQz0
import Derived.Lib.OwnKind
import Derived.Deep.Cut
import Derived.Test.YtedmdilabbolaaaGreatDoorQz6
import Derived.Test.YtedmdilabbolaaaGreatDoorQz8
import Derived.Test.YtedmdilabbolaaaGreatDoorQz9
import Derived.Handy
import Derived.Test.YtedmdilabbolaaaGreatDoorQr0
import Derived.Test.YtedmdilabbolaaaGreatDoorQr1
import Derived.Test.YtedmdilabbolaaaGreatDoorQr2
import Derived.Test.YtedmdilabbolaaaGreatDoorQr3
import Derived.Test.YtedmdilabbolaaaGreatDoorQr4
import Derived.Test.YtedmdilabbolaaaGreatDoorQr5
import Derived.Test.YtedmdilabbolaaaGreatDoorQr6
import Derived.Test.YtedmdilabbolaaaGreatDoorQr7
open List (setIfInBounds_toArray set_cons_zero set_cons_succ)
namespace Go.Proofs.YtedmdilabbolaaaGreatDoor
open Go.ChangeShapes Go.WideShapes Go.ChangeAt Go.RowKit Go.PlainAid
set_option linter.unusedVariables false
def mkLgx (k j:Nat):List Value:=[.int .i64 (((k+11*j:Nat):Int)),.int .i64 (((k+11*j:Nat):Int)+1),.int .i64 (((k+11*j:Nat):Int)+1+1),.string (mark (k+11*j+3)),.int .i64 (((k+11*j:Nat):Int)+1+1+1+1),.int .i64 (((k+11*j:Nat):Int)+1+1+1+1+1),.string (mark (k+11*j+6)),.int .i64 (((k+11*j:Nat):Int)+1+1+1+1+1+1+1),.int .i64 (((k+11*j:Nat):Int)+1+1+1+1+1+1+1+1),.int .i64 (((k+11*j:Nat):Int)+1+1+1+1+1+1+1+1+1),.string (mark (k+11*j+10))]
set_option maxRecDepth 20000 in
set_option maxHeartbeats 2000000 in
theorem markLegS (k base:Nat) (v:Value) (R:List (List Value)) (w:World) (hv:Owns w base 74 11 v R) (hl:R.length≤1048576) (h1:1≤k) (h2:k+11*R.length≤20000000) (hbase:base≤w.heap.size) :
  Calls Tryz.prog 51 #[v,.int .i64 (k:Int)] w fun e w'=>e=.returned (.int .i64 ((k+11*R.length:Nat):Int))∧Owns w' base 74 11 v (newR (mkLgx k) R.length)∧Below base w w'∧(∀ g,g<w.heap.size→v.ownBlock≠some g→w'.heap[g]?=w.heap[g]?):=by
 obtain ⟨A,ca,rfl⟩:∃ A ca,v=.slice A R.length ca:=by
  rcases hv.2.2 with ⟨rfl,h0⟩ | ⟨g,c,cur,rfl,_⟩
  ·exact ⟨none,0,by rw[h0]⟩
  ·exact ⟨_,_,rfl⟩
 have HV:Hid (Owns w base 74 11 (.slice A R.length ca) R):=hv
 have q1:(R.length:Int)≤1048576:=by omega
 have q3:(k:Int)≤20000000:=by omega
 clear hv hl
 generalize hn:R.length=n at *
 go_enter Tryz.func51,Tryz.ntmps51
 go_wp2_with fail
 go_loopw [1,5] (fun v1 v5 wr=>∃ j:Nat,j≤n∧v5=.int .i64 (j:Int)∧v1=.int .i64 ((k+11*j:Nat):Int)∧Owns wr base 74 11 (.slice A n ca) (partR (mkLgx k) R j)∧Below base w wr∧(∀ g,g<w.heap.size→(Value.slice A n ca).ownBlock≠some g→wr.heap[g]?=w.heap[g]?)) (fun _ i _=>n - (intOf i).toNat)
 case atStart=>exact ⟨0,by omega,rfl,by simp,by rw[partR_zero];exact HV.out,Below.refl _ _,fun _ _ _=>rfl⟩
 case round =>
  obtain ⟨j,hj,rfl,rfl,hS,hB,hK⟩:=hrel
  have HS:Hid (Owns wr base 74 11 (.slice A n ca) (partR (mkLgx k) R j)):=hS
  have HB:Hid (Below base w wr):=hB
  have HK:Hid (∀ g,g<w.heap.size→(Value.slice A n ca).ownBlock≠some g→wr.heap[g]?=w.heap[g]?):=hK
  clear hS hB hK
  by_cases hlt:j<n
  ·have q2:(j:Int)<(n:Int):=by omega
   obtain ⟨g,rfl,hgb⟩:∃ g,A=some ⟨g,0,none⟩∧base≤g:=by
    rcases HS.out.2.2 with ⟨e,h0⟩ | ⟨g,c,cur,e,hg,_⟩
    ·rw[partR_length _ _ _ (by omega),hn] at h0;omega
    ·cases e;exact ⟨g,rfl,hg⟩
   have HG:Hid (base≤g):=hgb
   have hpl:(partR (mkLgx k) R j).length=n:=by rw[partR_length _ _ _ (by omega),hn]
   have HN2:Hid ((partR (mkLgx k) R j).length=n):=hpl
   have hO0:Owns wr base 74 11 (.slice (some ⟨g,0,none⟩) n ca) ((partR (mkLgx k) R j).set j ((partR (mkLgx k) R j)[j]'(by omega))):=by rw[set_self];exact HS.out
   have hrl:((partR (mkLgx k) R j)[j]'(by omega)).length=11:=HS.out.1 _ (List.getElem_mem _)
   have HF:Hid ((partR (mkLgx k) R j).set j (mkLgx k j)=partR (mkLgx k) R (j+1)):=partR_set _ _ _ (by omega)
   obtain ⟨y0,y1,y2,y3,y4,y5,y6,y7,y8,y9,y10,hy⟩:∃ y0 y1 y2 y3 y4 y5 y6 y7 y8 y9 y10,(partR (mkLgx k) R j)[j]'(by omega)=[y0,y1,y2,y3,y4,y5,y6,y7,y8,y9,y10]:=by
    match hh:(partR (mkLgx k) R j)[j]'(by omega),hrl with
    | [y0,y1,y2,y3,y4,y5,y6,y7,y8,y9,y10],_=>exact ⟨y0,y1,y2,y3,y4,y5,y6,y7,y8,y9,y10,rfl⟩
   rw[hy] at hO0
   have hmk:mkLgx k j=[.int .i64 (((k+11*j:Nat):Int)),.int .i64 (((k+11*j:Nat):Int)+1),.int .i64 (((k+11*j:Nat):Int)+1+1),.string (mark (k+11*j+3)),.int .i64 (((k+11*j:Nat):Int)+1+1+1+1),.int .i64 (((k+11*j:Nat):Int)+1+1+1+1+1),.string (mark (k+11*j+6)),.int .i64 (((k+11*j:Nat):Int)+1+1+1+1+1+1+1),.int .i64 (((k+11*j:Nat):Int)+1+1+1+1+1+1+1+1),.int .i64 (((k+11*j:Nat):Int)+1+1+1+1+1+1+1+1+1),.string (mark (k+11*j+10))]:=rfl
   rw[hmk] at HF
   have HM:Hid (((k+11*(j+1):Nat):Int)=((k+11*j:Nat):Int)+11):=by unfold Hid;omega
   have q4:((k+11*j:Nat):Int)≤20000000:=by omega
   have HM1:Hid (1≤k+11*j):=by unfold Hid;omega
   have HM2:Hid (k+11*j≤20000000):=by unfold Hid;omega
   clear hmk hpl hrl hy
   generalize k+11*j=m at *
   generalize partR (mkLgx k) R j=P at *
   have hsz:=HB.out.size
   have hgw:g<wr.heap.size:=(hO0.lt g rfl).2
   obtain ⟨z0,d0⟩:=hO0.cellAt2 HN2.out hlt 0 (by omega)
   have f0:=hO0.free2 HN2.out (j*11)
   rw[Nat.add_zero] at d0
   obtain ⟨z1,d1⟩:=hO0.cellAt2 HN2.out hlt 1 (by omega)
   have f1:=hO0.free2 HN2.out (j*11+1)
   obtain ⟨z2,d2⟩:=hO0.cellAt2 HN2.out hlt 2 (by omega)
   have f2:=hO0.free2 HN2.out (j*11+2)
   have p0:=(hO0).pokeAt HN2.out hlt 0 (by omega) (.int .i64 ((m:Int)))
   rw[Nat.add_zero] at p0
   have p1:=(p0).pokeAt HN2.out hlt 1 (by omega) (.int .i64 ((m:Int)+1))
   have p2:=(p1).pokeAt HN2.out hlt 2 (by omega) (.int .i64 ((m:Int)+1+1))
   have Q0:Hid (Owns ((((wr).setCell ⟨g,j*11,none⟩ (.int .i64 ((m:Int)))).setCell ⟨g,j*11+1,none⟩ (.int .i64 ((m:Int)+1))).setCell ⟨g,j*11+2,none⟩ (.int .i64 ((m:Int)+1+1))) base 74 11 (.slice (some ⟨g,0,none⟩) n ca) (P.set j [.int .i64 ((m:Int)),.int .i64 ((m:Int)+1),.int .i64 ((m:Int)+1+1),y3,y4,y5,y6,y7,y8,y9,y10])):=p2
   have D0:Hid (Below base w ((((wr).setCell ⟨g,j*11,none⟩ (.int .i64 ((m:Int)))).setCell ⟨g,j*11+1,none⟩ (.int .i64 ((m:Int)+1))).setCell ⟨g,j*11+2,none⟩ (.int .i64 ((m:Int)+1+1)))):=(((HB.out).setCell (show base≤g from HG.out) _).setCell (show base≤g from HG.out) _).setCell (show base≤g from HG.out) _
   have E0:Hid (∀ b,b<w.heap.size→(Value.slice (some ⟨g,0,none⟩) n ca).ownBlock≠some b→((((wr).setCell ⟨g,j*11,none⟩ (.int .i64 ((m:Int)))).setCell ⟨g,j*11+1,none⟩ (.int .i64 ((m:Int)+1))).setCell ⟨g,j*11+2,none⟩ (.int .i64 ((m:Int)+1+1))).heap[b]?=w.heap[b]?):=fun b hb hne=>by rw[Below.heap_setCell _ _ _ _ (show b≠g from fun e=>hne (by rw[e];rfl)),Below.heap_setCell _ _ _ _ (show b≠g from fun e=>hne (by rw[e];rfl)),Below.heap_setCell _ _ _ _ (show b≠g from fun e=>hne (by rw[e];rfl))];exact HK.out b hb hne
   clear p0 p1 p2
   have hsz0:base≤((((wr).setCell ⟨g,j*11,none⟩ (.int .i64 ((m:Int)))).setCell ⟨g,j*11+1,none⟩ (.int .i64 ((m:Int)+1))).setCell ⟨g,j*11+2,none⟩ (.int .i64 ((m:Int)+1+1))).heap.size:=Nat.le_trans hbase D0.out.size
   have hwz0:w.heap.size≤((((wr).setCell ⟨g,j*11,none⟩ (.int .i64 ((m:Int)))).setCell ⟨g,j*11+1,none⟩ (.int .i64 ((m:Int)+1))).setCell ⟨g,j*11+2,none⟩ (.int .i64 ((m:Int)+1+1))).heap.size:=D0.out.size
   have c1:Calls Tryz.prog 93 #[.int .i64 ((m:Int)+1+1+1)] ((((wr).setCell ⟨g,j*11,none⟩ (.int .i64 ((m:Int)))).setCell ⟨g,j*11+1,none⟩ (.int .i64 ((m:Int)+1))).setCell ⟨g,j*11+2,none⟩ (.int .i64 ((m:Int)+1+1))) fun e w'=>e=.returned (.string (mark (m+3)))∧Below ((((wr).setCell ⟨g,j*11,none⟩ (.int .i64 ((m:Int)))).setCell ⟨g,j*11+1,none⟩ (.int .i64 ((m:Int)+1))).setCell ⟨g,j*11+2,none⟩ (.int .i64 ((m:Int)+1+1))).heap.size ((((wr).setCell ⟨g,j*11,none⟩ (.int .i64 ((m:Int)))).setCell ⟨g,j*11+1,none⟩ (.int .i64 ((m:Int)+1))).setCell ⟨g,j*11+2,none⟩ (.int .i64 ((m:Int)+1+1))) w':=by
    have h:=markText (m+3) ((((wr).setCell ⟨g,j*11,none⟩ (.int .i64 ((m:Int)))).setCell ⟨g,j*11+1,none⟩ (.int .i64 ((m:Int)+1))).setCell ⟨g,j*11+2,none⟩ (.int .i64 ((m:Int)+1+1))) (by have:=HM1.out;omega) (by have:=HM2.out;omega)
    rw[show ((m+3:Nat):Int)=(m:Int)+1+1+1 by omega] at h
    exact h
   go_wp2_with fail
   refine c1.mono ?_
   rintro e x1 ⟨rfl,hx1⟩
   have O1:Hid (Owns x1 base 74 11 (.slice (some ⟨g,0,none⟩) n ca) (P.set j [.int .i64 ((m:Int)),.int .i64 ((m:Int)+1),.int .i64 ((m:Int)+1+1),y3,y4,y5,y6,y7,y8,y9,y10])):=Q0.out.on hx1
   have B1:Hid (Below base w x1):=(D0.out).trans (hx1.mono hsz0)
   have K1:Hid (∀ b,b<w.heap.size→(Value.slice (some ⟨g,0,none⟩) n ca).ownBlock≠some b→x1.heap[b]?=w.heap[b]?):=fun b hb hne=>(hx1.block b (Nat.lt_of_lt_of_le hb hwz0)).trans (E0.out b hb hne)
   have hwz:w.heap.size≤x1.heap.size:=B1.out.size
   clear hx1 c1
   obtain ⟨z3,d3⟩:=O1.out.cellAt2 HN2.out hlt 3 (by omega)
   have f3:=O1.out.free2 HN2.out (j*11+3)
   obtain ⟨z4,d4⟩:=O1.out.cellAt2 HN2.out hlt 4 (by omega)
   have f4:=O1.out.free2 HN2.out (j*11+4)
   obtain ⟨z5,d5⟩:=O1.out.cellAt2 HN2.out hlt 5 (by omega)
   have f5:=O1.out.free2 HN2.out (j*11+5)
   have p3:=(O1.out).pokeAt HN2.out hlt 3 (by omega) (.string (mark (m+3)))
   have p4:=(p3).pokeAt HN2.out hlt 4 (by omega) (.int .i64 ((m:Int)+1+1+1+1))
   have p5:=(p4).pokeAt HN2.out hlt 5 (by omega) (.int .i64 ((m:Int)+1+1+1+1+1))
   have Q1:Hid (Owns ((((x1).setCell ⟨g,j*11+3,none⟩ (.string (mark (m+3)))).setCell ⟨g,j*11+4,none⟩ (.int .i64 ((m:Int)+1+1+1+1))).setCell ⟨g,j*11+5,none⟩ (.int .i64 ((m:Int)+1+1+1+1+1))) base 74 11 (.slice (some ⟨g,0,none⟩) n ca) (P.set j [.int .i64 ((m:Int)),.int .i64 ((m:Int)+1),.int .i64 ((m:Int)+1+1),.string (mark (m+3)),.int .i64 ((m:Int)+1+1+1+1),.int .i64 ((m:Int)+1+1+1+1+1),y6,y7,y8,y9,y10])):=p5
   have D1:Hid (Below base w ((((x1).setCell ⟨g,j*11+3,none⟩ (.string (mark (m+3)))).setCell ⟨g,j*11+4,none⟩ (.int .i64 ((m:Int)+1+1+1+1))).setCell ⟨g,j*11+5,none⟩ (.int .i64 ((m:Int)+1+1+1+1+1)))):=(((B1.out).setCell (show base≤g from HG.out) _).setCell (show base≤g from HG.out) _).setCell (show base≤g from HG.out) _
   have E1:Hid (∀ b,b<w.heap.size→(Value.slice (some ⟨g,0,none⟩) n ca).ownBlock≠some b→((((x1).setCell ⟨g,j*11+3,none⟩ (.string (mark (m+3)))).setCell ⟨g,j*11+4,none⟩ (.int .i64 ((m:Int)+1+1+1+1))).setCell ⟨g,j*11+5,none⟩ (.int .i64 ((m:Int)+1+1+1+1+1))).heap[b]?=w.heap[b]?):=fun b hb hne=>by rw[Below.heap_setCell _ _ _ _ (show b≠g from fun e=>hne (by rw[e];rfl)),Below.heap_setCell _ _ _ _ (show b≠g from fun e=>hne (by rw[e];rfl)),Below.heap_setCell _ _ _ _ (show b≠g from fun e=>hne (by rw[e];rfl))];exact K1.out b hb hne
   clear p3 p4 p5
   have hsz2:base≤((((x1).setCell ⟨g,j*11+3,none⟩ (.string (mark (m+3)))).setCell ⟨g,j*11+4,none⟩ (.int .i64 ((m:Int)+1+1+1+1))).setCell ⟨g,j*11+5,none⟩ (.int .i64 ((m:Int)+1+1+1+1+1))).heap.size:=Nat.le_trans hbase D1.out.size
   have hwz2:w.heap.size≤((((x1).setCell ⟨g,j*11+3,none⟩ (.string (mark (m+3)))).setCell ⟨g,j*11+4,none⟩ (.int .i64 ((m:Int)+1+1+1+1))).setCell ⟨g,j*11+5,none⟩ (.int .i64 ((m:Int)+1+1+1+1+1))).heap.size:=D1.out.size
   have c2:Calls Tryz.prog 93 #[.int .i64 ((m:Int)+1+1+1+1+1+1)] ((((x1).setCell ⟨g,j*11+3,none⟩ (.string (mark (m+3)))).setCell ⟨g,j*11+4,none⟩ (.int .i64 ((m:Int)+1+1+1+1))).setCell ⟨g,j*11+5,none⟩ (.int .i64 ((m:Int)+1+1+1+1+1))) fun e w'=>e=.returned (.string (mark (m+6)))∧Below ((((x1).setCell ⟨g,j*11+3,none⟩ (.string (mark (m+3)))).setCell ⟨g,j*11+4,none⟩ (.int .i64 ((m:Int)+1+1+1+1))).setCell ⟨g,j*11+5,none⟩ (.int .i64 ((m:Int)+1+1+1+1+1))).heap.size ((((x1).setCell ⟨g,j*11+3,none⟩ (.string (mark (m+3)))).setCell ⟨g,j*11+4,none⟩ (.int .i64 ((m:Int)+1+1+1+1))).setCell ⟨g,j*11+5,none⟩ (.int .i64 ((m:Int)+1+1+1+1+1))) w':=by
    have h:=markText (m+6) ((((x1).setCell ⟨g,j*11+3,none⟩ (.string (mark (m+3)))).setCell ⟨g,j*11+4,none⟩ (.int .i64 ((m:Int)+1+1+1+1))).setCell ⟨g,j*11+5,none⟩ (.int .i64 ((m:Int)+1+1+1+1+1))) (by have:=HM1.out;omega) (by have:=HM2.out;omega)
    rw[show ((m+6:Nat):Int)=(m:Int)+1+1+1+1+1+1 by omega] at h
    exact h
   go_wp2_with fail
   refine c2.mono ?_
   rintro e x2 ⟨rfl,hx2⟩
   have O2:Hid (Owns x2 base 74 11 (.slice (some ⟨g,0,none⟩) n ca) (P.set j [.int .i64 ((m:Int)),.int .i64 ((m:Int)+1),.int .i64 ((m:Int)+1+1),.string (mark (m+3)),.int .i64 ((m:Int)+1+1+1+1),.int .i64 ((m:Int)+1+1+1+1+1),y6,y7,y8,y9,y10])):=Q1.out.on hx2
   have B2:Hid (Below base w x2):=(D1.out).trans (hx2.mono hsz2)
   have K2:Hid (∀ b,b<w.heap.size→(Value.slice (some ⟨g,0,none⟩) n ca).ownBlock≠some b→x2.heap[b]?=w.heap[b]?):=fun b hb hne=>(hx2.block b (Nat.lt_of_lt_of_le hb hwz2)).trans (E1.out b hb hne)
   have hwz:w.heap.size≤x2.heap.size:=B2.out.size
   clear hx2 c2
   obtain ⟨z6,d6⟩:=O2.out.cellAt2 HN2.out hlt 6 (by omega)
   have f6:=O2.out.free2 HN2.out (j*11+6)
   obtain ⟨z7,d7⟩:=O2.out.cellAt2 HN2.out hlt 7 (by omega)
   have f7:=O2.out.free2 HN2.out (j*11+7)
   obtain ⟨z8,d8⟩:=O2.out.cellAt2 HN2.out hlt 8 (by omega)
   have f8:=O2.out.free2 HN2.out (j*11+8)
   obtain ⟨z9,d9⟩:=O2.out.cellAt2 HN2.out hlt 9 (by omega)
   have f9:=O2.out.free2 HN2.out (j*11+9)
   have p6:=(O2.out).pokeAt HN2.out hlt 6 (by omega) (.string (mark (m+6)))
   have p7:=(p6).pokeAt HN2.out hlt 7 (by omega) (.int .i64 ((m:Int)+1+1+1+1+1+1+1))
   have p8:=(p7).pokeAt HN2.out hlt 8 (by omega) (.int .i64 ((m:Int)+1+1+1+1+1+1+1+1))
   have p9:=(p8).pokeAt HN2.out hlt 9 (by omega) (.int .i64 ((m:Int)+1+1+1+1+1+1+1+1+1))
   have Q2:Hid (Owns (((((x2).setCell ⟨g,j*11+6,none⟩ (.string (mark (m+6)))).setCell ⟨g,j*11+7,none⟩ (.int .i64 ((m:Int)+1+1+1+1+1+1+1))).setCell ⟨g,j*11+8,none⟩ (.int .i64 ((m:Int)+1+1+1+1+1+1+1+1))).setCell ⟨g,j*11+9,none⟩ (.int .i64 ((m:Int)+1+1+1+1+1+1+1+1+1))) base 74 11 (.slice (some ⟨g,0,none⟩) n ca) (P.set j [.int .i64 ((m:Int)),.int .i64 ((m:Int)+1),.int .i64 ((m:Int)+1+1),.string (mark (m+3)),.int .i64 ((m:Int)+1+1+1+1),.int .i64 ((m:Int)+1+1+1+1+1),.string (mark (m+6)),.int .i64 ((m:Int)+1+1+1+1+1+1+1),.int .i64 ((m:Int)+1+1+1+1+1+1+1+1),.int .i64 ((m:Int)+1+1+1+1+1+1+1+1+1),y10])):=p9
   have D2:Hid (Below base w (((((x2).setCell ⟨g,j*11+6,none⟩ (.string (mark (m+6)))).setCell ⟨g,j*11+7,none⟩ (.int .i64 ((m:Int)+1+1+1+1+1+1+1))).setCell ⟨g,j*11+8,none⟩ (.int .i64 ((m:Int)+1+1+1+1+1+1+1+1))).setCell ⟨g,j*11+9,none⟩ (.int .i64 ((m:Int)+1+1+1+1+1+1+1+1+1)))):=((((B2.out).setCell (show base≤g from HG.out) _).setCell (show base≤g from HG.out) _).setCell (show base≤g from HG.out) _).setCell (show base≤g from HG.out) _
   have E2:Hid (∀ b,b<w.heap.size→(Value.slice (some ⟨g,0,none⟩) n ca).ownBlock≠some b→(((((x2).setCell ⟨g,j*11+6,none⟩ (.string (mark (m+6)))).setCell ⟨g,j*11+7,none⟩ (.int .i64 ((m:Int)+1+1+1+1+1+1+1))).setCell ⟨g,j*11+8,none⟩ (.int .i64 ((m:Int)+1+1+1+1+1+1+1+1))).setCell ⟨g,j*11+9,none⟩ (.int .i64 ((m:Int)+1+1+1+1+1+1+1+1+1))).heap[b]?=w.heap[b]?):=fun b hb hne=>by rw[Below.heap_setCell _ _ _ _ (show b≠g from fun e=>hne (by rw[e];rfl)),Below.heap_setCell _ _ _ _ (show b≠g from fun e=>hne (by rw[e];rfl)),Below.heap_setCell _ _ _ _ (show b≠g from fun e=>hne (by rw[e];rfl)),Below.heap_setCell _ _ _ _ (show b≠g from fun e=>hne (by rw[e];rfl))];exact K2.out b hb hne
   clear p6 p7 p8 p9
   have hsz3:base≤(((((x2).setCell ⟨g,j*11+6,none⟩ (.string (mark (m+6)))).setCell ⟨g,j*11+7,none⟩ (.int .i64 ((m:Int)+1+1+1+1+1+1+1))).setCell ⟨g,j*11+8,none⟩ (.int .i64 ((m:Int)+1+1+1+1+1+1+1+1))).setCell ⟨g,j*11+9,none⟩ (.int .i64 ((m:Int)+1+1+1+1+1+1+1+1+1))).heap.size:=Nat.le_trans hbase D2.out.size
   have hwz3:w.heap.size≤(((((x2).setCell ⟨g,j*11+6,none⟩ (.string (mark (m+6)))).setCell ⟨g,j*11+7,none⟩ (.int .i64 ((m:Int)+1+1+1+1+1+1+1))).setCell ⟨g,j*11+8,none⟩ (.int .i64 ((m:Int)+1+1+1+1+1+1+1+1))).setCell ⟨g,j*11+9,none⟩ (.int .i64 ((m:Int)+1+1+1+1+1+1+1+1+1))).heap.size:=D2.out.size
   have c3:Calls Tryz.prog 93 #[.int .i64 ((m:Int)+1+1+1+1+1+1+1+1+1+1)] (((((x2).setCell ⟨g,j*11+6,none⟩ (.string (mark (m+6)))).setCell ⟨g,j*11+7,none⟩ (.int .i64 ((m:Int)+1+1+1+1+1+1+1))).setCell ⟨g,j*11+8,none⟩ (.int .i64 ((m:Int)+1+1+1+1+1+1+1+1))).setCell ⟨g,j*11+9,none⟩ (.int .i64 ((m:Int)+1+1+1+1+1+1+1+1+1))) fun e w'=>e=.returned (.string (mark (m+10)))∧Below (((((x2).setCell ⟨g,j*11+6,none⟩ (.string (mark (m+6)))).setCell ⟨g,j*11+7,none⟩ (.int .i64 ((m:Int)+1+1+1+1+1+1+1))).setCell ⟨g,j*11+8,none⟩ (.int .i64 ((m:Int)+1+1+1+1+1+1+1+1))).setCell ⟨g,j*11+9,none⟩ (.int .i64 ((m:Int)+1+1+1+1+1+1+1+1+1))).heap.size (((((x2).setCell ⟨g,j*11+6,none⟩ (.string (mark (m+6)))).setCell ⟨g,j*11+7,none⟩ (.int .i64 ((m:Int)+1+1+1+1+1+1+1))).setCell ⟨g,j*11+8,none⟩ (.int .i64 ((m:Int)+1+1+1+1+1+1+1+1))).setCell ⟨g,j*11+9,none⟩ (.int .i64 ((m:Int)+1+1+1+1+1+1+1+1+1))) w':=by
    have h:=markText (m+10) (((((x2).setCell ⟨g,j*11+6,none⟩ (.string (mark (m+6)))).setCell ⟨g,j*11+7,none⟩ (.int .i64 ((m:Int)+1+1+1+1+1+1+1))).setCell ⟨g,j*11+8,none⟩ (.int .i64 ((m:Int)+1+1+1+1+1+1+1+1))).setCell ⟨g,j*11+9,none⟩ (.int .i64 ((m:Int)+1+1+1+1+1+1+1+1+1))) (by have:=HM1.out;omega) (by have:=HM2.out;omega)
    rw[show ((m+10:Nat):Int)=(m:Int)+1+1+1+1+1+1+1+1+1+1 by omega] at h
    exact h
   go_wp2_with fail
   refine c3.mono ?_
   rintro e x3 ⟨rfl,hx3⟩
   have O3:Hid (Owns x3 base 74 11 (.slice (some ⟨g,0,none⟩) n ca) (P.set j [.int .i64 ((m:Int)),.int .i64 ((m:Int)+1),.int .i64 ((m:Int)+1+1),.string (mark (m+3)),.int .i64 ((m:Int)+1+1+1+1),.int .i64 ((m:Int)+1+1+1+1+1),.string (mark (m+6)),.int .i64 ((m:Int)+1+1+1+1+1+1+1),.int .i64 ((m:Int)+1+1+1+1+1+1+1+1),.int .i64 ((m:Int)+1+1+1+1+1+1+1+1+1),y10])):=Q2.out.on hx3
   have B3:Hid (Below base w x3):=(D2.out).trans (hx3.mono hsz3)
   have K3:Hid (∀ b,b<w.heap.size→(Value.slice (some ⟨g,0,none⟩) n ca).ownBlock≠some b→x3.heap[b]?=w.heap[b]?):=fun b hb hne=>(hx3.block b (Nat.lt_of_lt_of_le hb hwz3)).trans (E2.out b hb hne)
   have hwz:w.heap.size≤x3.heap.size:=B3.out.size
   clear hx3 c3
   obtain ⟨z10,d10⟩:=O3.out.cellAt2 HN2.out hlt 10 (by omega)
   have f10:=O3.out.free2 HN2.out (j*11+10)
   have p10:=(O3.out).pokeAt HN2.out hlt 10 (by omega) (.string (mark (m+10)))
   have Q3:Hid (Owns ((x3).setCell ⟨g,j*11+10,none⟩ (.string (mark (m+10)))) base 74 11 (.slice (some ⟨g,0,none⟩) n ca) (P.set j [.int .i64 ((m:Int)),.int .i64 ((m:Int)+1),.int .i64 ((m:Int)+1+1),.string (mark (m+3)),.int .i64 ((m:Int)+1+1+1+1),.int .i64 ((m:Int)+1+1+1+1+1),.string (mark (m+6)),.int .i64 ((m:Int)+1+1+1+1+1+1+1),.int .i64 ((m:Int)+1+1+1+1+1+1+1+1),.int .i64 ((m:Int)+1+1+1+1+1+1+1+1+1),.string (mark (m+10))])):=p10
   have D3:Hid (Below base w ((x3).setCell ⟨g,j*11+10,none⟩ (.string (mark (m+10))))):=(B3.out).setCell (show base≤g from HG.out) _
   have E3:Hid (∀ b,b<w.heap.size→(Value.slice (some ⟨g,0,none⟩) n ca).ownBlock≠some b→((x3).setCell ⟨g,j*11+10,none⟩ (.string (mark (m+10)))).heap[b]?=w.heap[b]?):=fun b hb hne=>by rw[Below.heap_setCell _ _ _ _ (show b≠g from fun e=>hne (by rw[e];rfl))];exact K3.out b hb hne
   clear p10
   go_wp2_with fail
   go_roundw
   case rel=>exact ⟨j+1,by omega,by go_num,by rw[HM.out];go_num,by rw[← HF.out];exact Q3.out,D3.out,E3.out⟩
   case measure=>simp[intOf];omega
  ·obtain rfl:j=n:=by omega
   go_wp2_with fail
   go_ret
   refine ⟨rfl,?_,HB.out,HK.out⟩
   have:=HS.out
   rw[← hn,partR_all] at this
   rw[← hn]
   exact this
def mkTdo (k j:Nat):List Value:=[.int .i64 (((k+6*j:Nat):Int)),.int .i64 (((k+6*j:Nat):Int)+1),.string (mark (k+6*j+2)),.int .i64 (((k+6*j:Nat):Int)+1+1+1),.int .i64 (((k+6*j:Nat):Int)+1+1+1+1),.string (mark (k+6*j+5))]
set_option maxRecDepth 20000 in
set_option maxHeartbeats 2000000 in
theorem markTodoS (k base:Nat) (v:Value) (R:List (List Value)) (w:World) (hv:Owns w base 67 6 v R) (hl:R.length≤1048576) (h1:1≤k) (h2:k+6*R.length≤20000000) (hbase:base≤w.heap.size) :
  Calls Tryz.prog 52 #[v,.int .i64 (k:Int)] w fun e w'=>e=.returned (.int .i64 ((k+6*R.length:Nat):Int))∧Owns w' base 67 6 v (newR (mkTdo k) R.length)∧Below base w w'∧(∀ g,g<w.heap.size→v.ownBlock≠some g→w'.heap[g]?=w.heap[g]?):=by
 obtain ⟨A,ca,rfl⟩:∃ A ca,v=.slice A R.length ca:=by
  rcases hv.2.2 with ⟨rfl,h0⟩ | ⟨g,c,cur,rfl,_⟩
  ·exact ⟨none,0,by rw[h0]⟩
  ·exact ⟨_,_,rfl⟩
 have HV:Hid (Owns w base 67 6 (.slice A R.length ca) R):=hv
 have q1:(R.length:Int)≤1048576:=by omega
 have q3:(k:Int)≤20000000:=by omega
 clear hv hl
 generalize hn:R.length=n at *
 go_enter Tryz.func52,Tryz.ntmps52
 go_wp2_with fail
 go_loopw [1,5] (fun v1 v5 wr=>∃ j:Nat,j≤n∧v5=.int .i64 (j:Int)∧v1=.int .i64 ((k+6*j:Nat):Int)∧Owns wr base 67 6 (.slice A n ca) (partR (mkTdo k) R j)∧Below base w wr∧(∀ g,g<w.heap.size→(Value.slice A n ca).ownBlock≠some g→wr.heap[g]?=w.heap[g]?)) (fun _ i _=>n - (intOf i).toNat)
 case atStart=>exact ⟨0,by omega,rfl,by simp,by rw[partR_zero];exact HV.out,Below.refl _ _,fun _ _ _=>rfl⟩
 case round =>
  obtain ⟨j,hj,rfl,rfl,hS,hB,hK⟩:=hrel
  have HS:Hid (Owns wr base 67 6 (.slice A n ca) (partR (mkTdo k) R j)):=hS
  have HB:Hid (Below base w wr):=hB
  have HK:Hid (∀ g,g<w.heap.size→(Value.slice A n ca).ownBlock≠some g→wr.heap[g]?=w.heap[g]?):=hK
  clear hS hB hK
  by_cases hlt:j<n
  ·have q2:(j:Int)<(n:Int):=by omega
   obtain ⟨g,rfl,hgb⟩:∃ g,A=some ⟨g,0,none⟩∧base≤g:=by
    rcases HS.out.2.2 with ⟨e,h0⟩ | ⟨g,c,cur,e,hg,_⟩
    ·rw[partR_length _ _ _ (by omega),hn] at h0;omega
    ·cases e;exact ⟨g,rfl,hg⟩
   have HG:Hid (base≤g):=hgb
   have hpl:(partR (mkTdo k) R j).length=n:=by rw[partR_length _ _ _ (by omega),hn]
   have HN2:Hid ((partR (mkTdo k) R j).length=n):=hpl
   have hO0:Owns wr base 67 6 (.slice (some ⟨g,0,none⟩) n ca) ((partR (mkTdo k) R j).set j ((partR (mkTdo k) R j)[j]'(by omega))):=by rw[set_self];exact HS.out
   have hrl:((partR (mkTdo k) R j)[j]'(by omega)).length=6:=HS.out.1 _ (List.getElem_mem _)
   have HF:Hid ((partR (mkTdo k) R j).set j (mkTdo k j)=partR (mkTdo k) R (j+1)):=partR_set _ _ _ (by omega)
   obtain ⟨y0,y1,y2,y3,y4,y5,hy⟩:∃ y0 y1 y2 y3 y4 y5,(partR (mkTdo k) R j)[j]'(by omega)=[y0,y1,y2,y3,y4,y5]:=by
    match hh:(partR (mkTdo k) R j)[j]'(by omega),hrl with
    | [y0,y1,y2,y3,y4,y5],_=>exact ⟨y0,y1,y2,y3,y4,y5,rfl⟩
   rw[hy] at hO0
   have hmk:mkTdo k j=[.int .i64 (((k+6*j:Nat):Int)),.int .i64 (((k+6*j:Nat):Int)+1),.string (mark (k+6*j+2)),.int .i64 (((k+6*j:Nat):Int)+1+1+1),.int .i64 (((k+6*j:Nat):Int)+1+1+1+1),.string (mark (k+6*j+5))]:=rfl
   rw[hmk] at HF
   have HM:Hid (((k+6*(j+1):Nat):Int)=((k+6*j:Nat):Int)+6):=by unfold Hid;omega
   have q4:((k+6*j:Nat):Int)≤20000000:=by omega
   have HM1:Hid (1≤k+6*j):=by unfold Hid;omega
   have HM2:Hid (k+6*j≤20000000):=by unfold Hid;omega
   clear hmk hpl hrl hy
   generalize k+6*j=m at *
   generalize partR (mkTdo k) R j=P at *
   have hsz:=HB.out.size
   have hgw:g<wr.heap.size:=(hO0.lt g rfl).2
   obtain ⟨z0,d0⟩:=hO0.cellAt2 HN2.out hlt 0 (by omega)
   have f0:=hO0.free2 HN2.out (j*6)
   rw[Nat.add_zero] at d0
   obtain ⟨z1,d1⟩:=hO0.cellAt2 HN2.out hlt 1 (by omega)
   have f1:=hO0.free2 HN2.out (j*6+1)
   have p0:=(hO0).pokeAt HN2.out hlt 0 (by omega) (.int .i64 ((m:Int)))
   rw[Nat.add_zero] at p0
   have p1:=(p0).pokeAt HN2.out hlt 1 (by omega) (.int .i64 ((m:Int)+1))
   have Q0:Hid (Owns (((wr).setCell ⟨g,j*6,none⟩ (.int .i64 ((m:Int)))).setCell ⟨g,j*6+1,none⟩ (.int .i64 ((m:Int)+1))) base 67 6 (.slice (some ⟨g,0,none⟩) n ca) (P.set j [.int .i64 ((m:Int)),.int .i64 ((m:Int)+1),y2,y3,y4,y5])):=p1
   have D0:Hid (Below base w (((wr).setCell ⟨g,j*6,none⟩ (.int .i64 ((m:Int)))).setCell ⟨g,j*6+1,none⟩ (.int .i64 ((m:Int)+1)))):=((HB.out).setCell (show base≤g from HG.out) _).setCell (show base≤g from HG.out) _
   have E0:Hid (∀ b,b<w.heap.size→(Value.slice (some ⟨g,0,none⟩) n ca).ownBlock≠some b→(((wr).setCell ⟨g,j*6,none⟩ (.int .i64 ((m:Int)))).setCell ⟨g,j*6+1,none⟩ (.int .i64 ((m:Int)+1))).heap[b]?=w.heap[b]?):=fun b hb hne=>by rw[Below.heap_setCell _ _ _ _ (show b≠g from fun e=>hne (by rw[e];rfl)),Below.heap_setCell _ _ _ _ (show b≠g from fun e=>hne (by rw[e];rfl))];exact HK.out b hb hne
   clear p0 p1
   have hsz0:base≤(((wr).setCell ⟨g,j*6,none⟩ (.int .i64 ((m:Int)))).setCell ⟨g,j*6+1,none⟩ (.int .i64 ((m:Int)+1))).heap.size:=Nat.le_trans hbase D0.out.size
   have hwz0:w.heap.size≤(((wr).setCell ⟨g,j*6,none⟩ (.int .i64 ((m:Int)))).setCell ⟨g,j*6+1,none⟩ (.int .i64 ((m:Int)+1))).heap.size:=D0.out.size
   have c1:Calls Tryz.prog 93 #[.int .i64 ((m:Int)+1+1)] (((wr).setCell ⟨g,j*6,none⟩ (.int .i64 ((m:Int)))).setCell ⟨g,j*6+1,none⟩ (.int .i64 ((m:Int)+1))) fun e w'=>e=.returned (.string (mark (m+2)))∧Below (((wr).setCell ⟨g,j*6,none⟩ (.int .i64 ((m:Int)))).setCell ⟨g,j*6+1,none⟩ (.int .i64 ((m:Int)+1))).heap.size (((wr).setCell ⟨g,j*6,none⟩ (.int .i64 ((m:Int)))).setCell ⟨g,j*6+1,none⟩ (.int .i64 ((m:Int)+1))) w':=by
    have h:=markText (m+2) (((wr).setCell ⟨g,j*6,none⟩ (.int .i64 ((m:Int)))).setCell ⟨g,j*6+1,none⟩ (.int .i64 ((m:Int)+1))) (by have:=HM1.out;omega) (by have:=HM2.out;omega)
    rw[show ((m+2:Nat):Int)=(m:Int)+1+1 by omega] at h
    exact h
   go_wp2_with fail
   refine c1.mono ?_
   rintro e x1 ⟨rfl,hx1⟩
   have O1:Hid (Owns x1 base 67 6 (.slice (some ⟨g,0,none⟩) n ca) (P.set j [.int .i64 ((m:Int)),.int .i64 ((m:Int)+1),y2,y3,y4,y5])):=Q0.out.on hx1
   have B1:Hid (Below base w x1):=(D0.out).trans (hx1.mono hsz0)
   have K1:Hid (∀ b,b<w.heap.size→(Value.slice (some ⟨g,0,none⟩) n ca).ownBlock≠some b→x1.heap[b]?=w.heap[b]?):=fun b hb hne=>(hx1.block b (Nat.lt_of_lt_of_le hb hwz0)).trans (E0.out b hb hne)
   have hwz:w.heap.size≤x1.heap.size:=B1.out.size
   clear hx1 c1
   obtain ⟨z2,d2⟩:=O1.out.cellAt2 HN2.out hlt 2 (by omega)
   have f2:=O1.out.free2 HN2.out (j*6+2)
   obtain ⟨z3,d3⟩:=O1.out.cellAt2 HN2.out hlt 3 (by omega)
   have f3:=O1.out.free2 HN2.out (j*6+3)
   obtain ⟨z4,d4⟩:=O1.out.cellAt2 HN2.out hlt 4 (by omega)
   have f4:=O1.out.free2 HN2.out (j*6+4)
   have p2:=(O1.out).pokeAt HN2.out hlt 2 (by omega) (.string (mark (m+2)))
   have p3:=(p2).pokeAt HN2.out hlt 3 (by omega) (.int .i64 ((m:Int)+1+1+1))
   have p4:=(p3).pokeAt HN2.out hlt 4 (by omega) (.int .i64 ((m:Int)+1+1+1+1))
   have Q1:Hid (Owns ((((x1).setCell ⟨g,j*6+2,none⟩ (.string (mark (m+2)))).setCell ⟨g,j*6+3,none⟩ (.int .i64 ((m:Int)+1+1+1))).setCell ⟨g,j*6+4,none⟩ (.int .i64 ((m:Int)+1+1+1+1))) base 67 6 (.slice (some ⟨g,0,none⟩) n ca) (P.set j [.int .i64 ((m:Int)),.int .i64 ((m:Int)+1),.string (mark (m+2)),.int .i64 ((m:Int)+1+1+1),.int .i64 ((m:Int)+1+1+1+1),y5])):=p4
   have D1:Hid (Below base w ((((x1).setCell ⟨g,j*6+2,none⟩ (.string (mark (m+2)))).setCell ⟨g,j*6+3,none⟩ (.int .i64 ((m:Int)+1+1+1))).setCell ⟨g,j*6+4,none⟩ (.int .i64 ((m:Int)+1+1+1+1)))):=(((B1.out).setCell (show base≤g from HG.out) _).setCell (show base≤g from HG.out) _).setCell (show base≤g from HG.out) _
   have E1:Hid (∀ b,b<w.heap.size→(Value.slice (some ⟨g,0,none⟩) n ca).ownBlock≠some b→((((x1).setCell ⟨g,j*6+2,none⟩ (.string (mark (m+2)))).setCell ⟨g,j*6+3,none⟩ (.int .i64 ((m:Int)+1+1+1))).setCell ⟨g,j*6+4,none⟩ (.int .i64 ((m:Int)+1+1+1+1))).heap[b]?=w.heap[b]?):=fun b hb hne=>by rw[Below.heap_setCell _ _ _ _ (show b≠g from fun e=>hne (by rw[e];rfl)),Below.heap_setCell _ _ _ _ (show b≠g from fun e=>hne (by rw[e];rfl)),Below.heap_setCell _ _ _ _ (show b≠g from fun e=>hne (by rw[e];rfl))];exact K1.out b hb hne
   clear p2 p3 p4
   have hsz2:base≤((((x1).setCell ⟨g,j*6+2,none⟩ (.string (mark (m+2)))).setCell ⟨g,j*6+3,none⟩ (.int .i64 ((m:Int)+1+1+1))).setCell ⟨g,j*6+4,none⟩ (.int .i64 ((m:Int)+1+1+1+1))).heap.size:=Nat.le_trans hbase D1.out.size
   have hwz2:w.heap.size≤((((x1).setCell ⟨g,j*6+2,none⟩ (.string (mark (m+2)))).setCell ⟨g,j*6+3,none⟩ (.int .i64 ((m:Int)+1+1+1))).setCell ⟨g,j*6+4,none⟩ (.int .i64 ((m:Int)+1+1+1+1))).heap.size:=D1.out.size
   have c2:Calls Tryz.prog 93 #[.int .i64 ((m:Int)+1+1+1+1+1)] ((((x1).setCell ⟨g,j*6+2,none⟩ (.string (mark (m+2)))).setCell ⟨g,j*6+3,none⟩ (.int .i64 ((m:Int)+1+1+1))).setCell ⟨g,j*6+4,none⟩ (.int .i64 ((m:Int)+1+1+1+1))) fun e w'=>e=.returned (.string (mark (m+5)))∧Below ((((x1).setCell ⟨g,j*6+2,none⟩ (.string (mark (m+2)))).setCell ⟨g,j*6+3,none⟩ (.int .i64 ((m:Int)+1+1+1))).setCell ⟨g,j*6+4,none⟩ (.int .i64 ((m:Int)+1+1+1+1))).heap.size ((((x1).setCell ⟨g,j*6+2,none⟩ (.string (mark (m+2)))).setCell ⟨g,j*6+3,none⟩ (.int .i64 ((m:Int)+1+1+1))).setCell ⟨g,j*6+4,none⟩ (.int .i64 ((m:Int)+1+1+1+1))) w':=by
    have h:=markText (m+5) ((((x1).setCell ⟨g,j*6+2,none⟩ (.string (mark (m+2)))).setCell ⟨g,j*6+3,none⟩ (.int .i64 ((m:Int)+1+1+1))).setCell ⟨g,j*6+4,none⟩ (.int .i64 ((m:Int)+1+1+1+1))) (by have:=HM1.out;omega) (by have:=HM2.out;omega)
    rw[show ((m+5:Nat):Int)=(m:Int)+1+1+1+1+1 by omega] at h
    exact h
   go_wp2_with fail
   refine c2.mono ?_
   rintro e x2 ⟨rfl,hx2⟩
   have O2:Hid (Owns x2 base 67 6 (.slice (some ⟨g,0,none⟩) n ca) (P.set j [.int .i64 ((m:Int)),.int .i64 ((m:Int)+1),.string (mark (m+2)),.int .i64 ((m:Int)+1+1+1),.int .i64 ((m:Int)+1+1+1+1),y5])):=Q1.out.on hx2
   have B2:Hid (Below base w x2):=(D1.out).trans (hx2.mono hsz2)
   have K2:Hid (∀ b,b<w.heap.size→(Value.slice (some ⟨g,0,none⟩) n ca).ownBlock≠some b→x2.heap[b]?=w.heap[b]?):=fun b hb hne=>(hx2.block b (Nat.lt_of_lt_of_le hb hwz2)).trans (E1.out b hb hne)
   have hwz:w.heap.size≤x2.heap.size:=B2.out.size
   clear hx2 c2
   obtain ⟨z5,d5⟩:=O2.out.cellAt2 HN2.out hlt 5 (by omega)
   have f5:=O2.out.free2 HN2.out (j*6+5)
   have p5:=(O2.out).pokeAt HN2.out hlt 5 (by omega) (.string (mark (m+5)))
   have Q2:Hid (Owns ((x2).setCell ⟨g,j*6+5,none⟩ (.string (mark (m+5)))) base 67 6 (.slice (some ⟨g,0,none⟩) n ca) (P.set j [.int .i64 ((m:Int)),.int .i64 ((m:Int)+1),.string (mark (m+2)),.int .i64 ((m:Int)+1+1+1),.int .i64 ((m:Int)+1+1+1+1),.string (mark (m+5))])):=p5
   have D2:Hid (Below base w ((x2).setCell ⟨g,j*6+5,none⟩ (.string (mark (m+5))))):=(B2.out).setCell (show base≤g from HG.out) _
   have E2:Hid (∀ b,b<w.heap.size→(Value.slice (some ⟨g,0,none⟩) n ca).ownBlock≠some b→((x2).setCell ⟨g,j*6+5,none⟩ (.string (mark (m+5)))).heap[b]?=w.heap[b]?):=fun b hb hne=>by rw[Below.heap_setCell _ _ _ _ (show b≠g from fun e=>hne (by rw[e];rfl))];exact K2.out b hb hne
   clear p5
   go_wp2_with fail
   go_roundw
   case rel=>exact ⟨j+1,by omega,by go_num,by rw[HM.out];go_num,by rw[← HF.out];exact Q2.out,D2.out,E2.out⟩
   case measure=>simp[intOf];omega
  ·obtain rfl:j=n:=by omega
   go_wp2_with fail
   go_ret
   refine ⟨rfl,?_,HB.out,HK.out⟩
   have:=HS.out
   rw[← hn,partR_all] at this
   rw[← hn]
   exact this
set_option maxHeartbeats 1000000 in
theorem markIntK (k base:Nat) (v:Value) (l:List Int) (w:World) (hv:Nums w base v l) (hl:l.length≤2097152) (h2:k≤100000000) :
  Calls Tryz.prog 50 #[v,.int .i64 (k:Int)] w fun e w'=>e=.returned (.int .i64 ((k+l.length:Nat):Int))∧Nums w' base v (nmarks k l.length)∧Below base w w'∧(∀ g,v.ownBlock≠some g→w'.heap[g]?=w.heap[g]?):=by
 have HV:Hid (Nums w base v l):=hv
 have hlt0:=hv.lt
 obtain ⟨A,ca,rfl,_,_⟩:=hv.shape
 have q1:(l.length:Int)≤2097152:=by omega
 have q3:(k:Int)≤100000000:=by omega
 clear hv hl
 generalize hn:l.length=n at *
 have HN:Hid (l.length=n):=hn
 clear hn
 go_enter Tryz.func50,Tryz.ntmps50
 go_wp2
 go_loopw [1,5] (fun v1 v5 wr=>∃ j:Nat,j≤n∧v5=.int .i64 j∧v1=.int .i64 ((k+j:Nat):Int)∧Nums wr base (.slice A n ca) (nmarked k l j)∧Below base w wr∧(∀ g,(Value.slice A n ca).ownBlock≠some g→wr.heap[g]?=w.heap[g]?)) (fun _ i _=>n - (intOf i).toNat)
 case atStart=>exact ⟨0,by omega,rfl,rfl,by rw[nmarked_zero];exact HV.out,Below.refl _ _,fun _ _=>rfl⟩
 case round =>
  obtain ⟨j,hj,rfl,rfl,hS,hB,hKp⟩:=hrel
  have HKP:Hid (∀ g,(Value.slice A n ca).ownBlock≠some g→wr.heap[g]?=w.heap[g]?):=hKp
  clear hKp
  have HS:Hid (Nums wr base (.slice A n ca) (nmarked k l j)):=hS
  have HB:Hid (Below base w wr):=hB
  clear hB
  by_cases hlt:j<n
  ·have q2:(j:Int)<(n:Int):=by omega
   have hml:(nmarked k l j).length=n:=by rw[nmarked_length _ _ _ (by rw[HN.out];exact hj),HN.out]
   obtain ⟨g,rfl,hg,_⟩:=hS.block (by omega)
   have HG:Hid (base≤g):=hg
   have e1:=hS.cell j (by rw[hml];exact hlt)
   have e2:=hS.frozen j
   have hS2:=hS.stored j ((k+j:Nat):Int)
   rw[nmarked_set _ _ _ (by rw[HN.out];exact hlt)] at hS2
   have HS2:Hid (Nums (wr.setCell ⟨g,j,none⟩ (.int .i64 ((k+j:Nat):Int))) base (.slice (some ⟨g,0,none⟩) n ca) (nmarked k l (j+1))):=hS2
   generalize (nmarked k l j).getD j 0=x at *
   clear hS hS2 hml hg
   go_wp2_with fail
   go_roundw
   case rel=>exact ⟨j+1,by omega,by go_num,by go_num,by have:=HS2.out;rwa [show ((k+j:Nat):Int)=(k:Int)+(j:Int) by omega] at this,HB.out.setCell HG.out _,fun g' hg'=>by rw[Below.heap_setCell _ _ _ _ (fun e=>hg' (by rw[e];rfl))];exact HKP.out g' hg'⟩
   case measure=>simp[intOf];omega
  ·have hkk:j=n:=by omega
   subst hkk
   clear hS
   go_wp2
   go_ret
   refine ⟨rfl,?_,HB.out,HKP.out⟩
   have h:=HS.out
   rw[← HN.out,nmarked_all,HN.out] at h
   exact h
theorem Nums.kindR {w:World} {base:Nat} {v:Value} {l:List Int} (h:Nums w base v l) {g:Nat} (hg:v.ownBlock=some g):∃ cs fz,w.heap[g]?=some (.cells cs 3 fz):=by
 obtain ⟨c,fz,e⟩:=Lib.ownsRow_kind h g hg
 exact ⟨c,fz,e⟩
theorem Owns.kindR {w:World} {base:Nat} {e:TypeId} {sz:Nat} {v:Value} {rows:List (List Value)} (h:Owns w base e sz v rows) {g:Nat} (hg:v.ownBlock=some g):∃ cs fz,w.heap[g]?=some (.cells cs e fz):=Lib.ownsRow_kind h.2 g hg
theorem two_kinds {w:World} {u v:Value} {e t:TypeId} {g:Nat} (h1:∀ g,u.ownBlock=some g→∃ cs fz,w.heap[g]?=some (.cells cs e fz)) (h2:∀ g,v.ownBlock=some g→∃ cs fz,w.heap[g]?=some (.cells cs t fz)) (hne:e≠t) (hg:v.ownBlock=some g):u.ownBlock≠some g:=fun hu=>by
 obtain ⟨cs,fz,e1⟩:=h1 g hu
 obtain ⟨ds,fy,e2⟩:=h2 g hg
 rw[e1] at e2
 cases e2
 exact hne rfl
theorem two_blk {w:World} {u:Value} {e t:TypeId} {g:Nat} {cs:Array Value} (h1:∀ g,u.ownBlock=some g→∃ cs fz,w.heap[g]?=some (.cells cs e fz)) (hb:Blk w g cs t) (hne:e≠t):u.ownBlock≠some g:=fun hu=>by
 obtain ⟨ds,fz,e1⟩:=h1 g hu
 have e2:w.heap[g]?=some (.cells cs t (0,0)):=hb
 rw[e1] at e2
 cases e2
 exact hne rfl
def kR1 (x:Rtr):Nat:=1+x.sers.length
def kR2 (x:Rtr):Nat:=kR1 x+11*x.legs.length
def kR (x:Rtr):Nat:=kR2 x+6*x.todo.length
structure RtMks (w:World) (base:Nat) (x:Rtr) (us ul ut:Value):Prop where
 s:Nums w base us (nmarks 1 x.sers.length)
 l:Owns w base 74 11 ul (newR (mkLgx (kR1 x)) x.legs.length)
 t:Owns w base 67 6 ut (newR (mkTdo (kR2 x)) x.todo.length)
theorem RtMks.on {w w':World} {base:Nat} {x:Rtr} {us ul ut:Value} (h:RtMks w base x us ul ut) (hb:Below w.heap.size w w'):RtMks w' base x us ul ut:=⟨h.s.on hb,h.l.on hb,h.t.on hb⟩
structure NotR (us ul ut:Value) (g:Nat):Prop where
 s:us.ownBlock≠some g
 l:ul.ownBlock≠some g
 t:ut.ownBlock≠some g
set_option maxHeartbeats 4000000 in
theorem markRouter (x:Rtr) (us ul ut:Value) (base:Nat) (w:World) (hv:RtRows w base x us ul ut) (hs:x.sers.length≤1048576∧x.legs.length≤1048576∧x.todo.length≤1048576∧kR x≤15000000) (hbase:base≤w.heap.size) :
  Calls Tryz.prog 14 #[vRtr x us ul ut,.int .i64 1] w fun e w'=>e=.returned (.int .i64 (kR x:Int))∧RtMks w' base x us ul ut∧Below base w w'∧(∀ g,g<w.heap.size→NotR us ul ut g→w'.heap[g]?=w.heap[g]?):=by
 have hb0:Below w.heap.size w (w.alloc (.cells #[.int .i64 x.id,us,.bool x.busy,.int .i64 x.call.kind,.string x.call.key,.int .i64 x.call.frm,.int .i64 x.call.til,.string x.call.data,.int .i64 x.begun,ul,ut] 35)):=(Below.refl _ _).alloc (Nat.le_refl _) _
 have HR:=Hid.mkQ (hv.on hb0)
 have B0:Hid (Below w.heap.size w (w.alloc (.cells #[.int .i64 x.id,us,.bool x.busy,.int .i64 x.call.kind,.string x.call.key,.int .i64 x.call.frm,.int .i64 x.call.til,.string x.call.data,.int .i64 x.begun,ul,ut] 35))):=hb0
 have K0:=Hid.mkQ (Blk.new w #[.int .i64 x.id,us,.bool x.busy,.int .i64 x.call.kind,.string x.call.key,.int .i64 x.call.frm,.int .i64 x.call.til,.string x.call.data,.int .i64 x.begun,ul,ut] 35)
 have HBs:Hid (base≤w.heap.size):=hbase
 have HS:=Hid.mkQ hs
 have HK1:Hid (kR1 x=1+x.sers.length):=rfl
 have HK2:Hid (kR2 x=kR1 x+11*x.legs.length):=rfl
 have HK3:Hid (kR x=kR2 x+6*x.todo.length):=rfl
 have N3L:Hid ((3:Nat)≠74):=by unfold Hid;decide
 have N3T:Hid ((3:Nat)≠67):=by unfold Hid;decide
 have NLT:Hid ((74:Nat)≠67):=by unfold Hid;decide
 have N3R:Hid ((3:Nat)≠35):=by unfold Hid;decide
 have NLR:Hid ((74:Nat)≠35):=by unfold Hid;decide
 obtain ⟨A0,m0,k0,e0⟩:∃ A m k,us=.slice A m k:=by obtain ⟨A,c,e,_⟩:=hv.s.shape;exact ⟨A,_,c,e⟩
 obtain ⟨A1,m1,k1,e1⟩:∃ A m k,ul=.slice A m k:=hv.l.shape
 obtain ⟨A2,m2,k2,e2⟩:∃ A m k,ut=.slice A m k:=hv.t.shape
 subst e0 e1 e2
 unfold vRtr
 clear hb0 hv hbase hs
 go_enter Tryz.func14,Tryz.ntmps14
 go_wp2_with fail
 generalize w.alloc (.cells #[.int .i64 x.id,.slice A0 m0 k0,.bool x.busy,.int .i64 x.call.kind,.string x.call.key,.int .i64 x.call.frm,.int .i64 x.call.til,.string x.call.data,.int .i64 x.begun,.slice A1 m1 k1,.slice A2 m2 k2] 35)=W at *
 have c1:=markIntK 1 base (.slice A0 m0 k0) x.sers W HR.out.s (by have:=HS.out.1;omega) (by omega)
 rw[← HK1.out] at c1
 refine c1.mono ?_
 rintro e W1 ⟨rfl,hO1,hb1,hk1⟩
 have Q1:=Hid.mkQ hO1
 have L1:Hid (Owns W1 base 74 11 (.slice A1 m1 k1) (lgxR x.legs)):=HR.out.l.kept fun g hl hg=>hk1 g (two_kinds (fun _ h=>HR.out.s.kindR h) (fun _ h=>HR.out.l.kindR h) N3L.out hg)
 have T1:Hid (Owns W1 base 67 6 (.slice A2 m2 k2) (tdoR x.todo)):=HR.out.t.kept fun g hl hg=>hk1 g (two_kinds (fun _ h=>HR.out.s.kindR h) (fun _ h=>HR.out.t.kindR h) N3T.out hg)
 have K1:Hid (Blk W1 w.heap.size #[.int .i64 x.id,.slice A0 m0 k0,.bool x.busy,.int .i64 x.call.kind,.string x.call.key,.int .i64 x.call.frm,.int .i64 x.call.til,.string x.call.data,.int .i64 x.begun,.slice A1 m1 k1,.slice A2 m2 k2] 35):=(hk1 _ (two_blk (fun _ h=>HR.out.s.kindR h) K0.out N3R.out)).trans K0.out
 have B1:Hid (Below base w W1):=(B0.out.mono HBs.out).trans hb1
 have G1:Hid (∀ g,g<w.heap.size→(Value.slice A0 m0 k0).ownBlock≠some g→W1.heap[g]?=w.heap[g]?):=fun g hg e=>(hk1 g e).trans (B0.out.block g hg)
 clear hO1 hb1 hk1 HR c1
 have j9:=K1.out.cell 9 _ rfl
 have hkl:1≤kR1 x:=by have:=HK1.out;omega
 have c2:=markLegS (kR1 x) base (.slice A1 m1 k1) (lgxR x.legs) W1 L1.out (by rw[lgxR_length];have:=HS.out.2.1;omega) hkl (by rw[lgxR_length];have:=HS.out.2.2.2;have:=HK2.out;have:=HK3.out;omega) (Nat.le_trans HBs.out B1.out.size)
 rw[lgxR_length,← HK2.out] at c2
 go_wp2_with fail
 refine c2.mono ?_
 rintro e W2 ⟨rfl,hO1,hb1,hk1⟩
 have L2:=Hid.mkQ hO1
 have hz1:w.heap.size≤W1.heap.size:=B1.out.size
 have Q2:Hid (Nums W2 base (.slice A0 m0 k0) (nmarks 1 x.sers.length)):=Q1.out.kept fun g hl hg=>hk1 g hl (two_kinds (fun _ h=>L1.out.kindR h) (fun _ h=>Q1.out.kindR h) (fun q=>N3L.out q.symm) hg)
 have T2:Hid (Owns W2 base 67 6 (.slice A2 m2 k2) (tdoR x.todo)):=T1.out.kept fun g hl hg=>hk1 g hl (two_kinds (fun _ h=>L1.out.kindR h) (fun _ h=>T1.out.kindR h) NLT.out hg)
 have K2:Hid (Blk W2 w.heap.size #[.int .i64 x.id,.slice A0 m0 k0,.bool x.busy,.int .i64 x.call.kind,.string x.call.key,.int .i64 x.call.frm,.int .i64 x.call.til,.string x.call.data,.int .i64 x.begun,.slice A1 m1 k1,.slice A2 m2 k2] 35):=(hk1 _ K1.out.lt (two_blk (fun _ h=>L1.out.kindR h) K1.out NLR.out)).trans K1.out
 have B2:Hid (Below base w W2):=B1.out.trans hb1
 have G2:Hid (∀ g,g<w.heap.size→(Value.slice A0 m0 k0).ownBlock≠some g→(Value.slice A1 m1 k1).ownBlock≠some g→W2.heap[g]?=w.heap[g]?):=fun g hg e e2=>(hk1 g (Nat.lt_of_lt_of_le hg hz1) e2).trans (G1.out g hg e)
 clear hO1 hb1 hk1 Q1 L1 T1 K1 B1 G1 c2 hz1 j9
 have j10:=K2.out.cell 10 _ rfl
 have hkt:1≤kR2 x:=by have:=HK1.out;have:=HK2.out;omega
 have c3:=markTodoS (kR2 x) base (.slice A2 m2 k2) (tdoR x.todo) W2 T2.out (by rw[tdoR_length];exact HS.out.2.2.1) hkt (by rw[tdoR_length];have:=HS.out.2.2.2;have:=HK3.out;omega) (Nat.le_trans HBs.out B2.out.size)
 rw[tdoR_length,← HK3.out] at c3
 go_wp2_with fail
 refine c3.mono ?_
 rintro e W3 ⟨rfl,hO1,hb1,hk1⟩
 have hz2:w.heap.size≤W2.heap.size:=B2.out.size
 have R3:Hid (RtMks W3 base x (.slice A0 m0 k0) (.slice A1 m1 k1) (.slice A2 m2 k2)):=⟨Q2.out.kept fun g hl hg=>hk1 g hl (two_kinds (fun _ h=>T2.out.kindR h) (fun _ h=>Q2.out.kindR h) (fun q=>N3T.out q.symm) hg),L2.out.kept fun g hl hg=>hk1 g hl (two_kinds (fun _ h=>T2.out.kindR h) (fun _ h=>L2.out.kindR h) (fun q=>NLT.out q.symm) hg),hO1⟩
 have B3:Hid (Below base w W3):=B2.out.trans hb1
 have G3:Hid (∀ g,g<w.heap.size→NotR (.slice A0 m0 k0) (.slice A1 m1 k1) (.slice A2 m2 k2) g→W3.heap[g]?=w.heap[g]?):=fun g hg e=>(hk1 g (Nat.lt_of_lt_of_le hg hz2) e.t).trans (G2.out g hg e.s e.l)
 clear hO1 hb1 hk1 Q2 L2 T2 K2 B2 G2 c3 hz2 j10
 go_wp2_with fail
 go_ret
 exact ⟨rfl,R3.out,B3.out,G3.out⟩
end Go.Proofs.YtedmdilabbolaaaGreatDoor
namespace Go.Proofs.YtedmdilabbolaaaGreatDoor
open Go.ChangeShapes Go.WideShapes Go.ChangeAt Go.RowKit Go.PlainAid
set_option linter.unusedVariables false
set_option maxHeartbeats 4000000 in
theorem eqMsg (x:Mg) (va vb:Value) (w:World) (B:Nat) (ha:MgV w B va x) (hb:MgV w B vb x) (hn:x.ents.length≤1048576) (hB:B≤w.heap.size) :
  Calls Tryz.prog 13 #[va,vb] w fun e w'=>e=.returned (.bool true)∧Below w.heap.size w w':=by
 obtain ⟨ua,rfl,al⟩:=ha
 obtain ⟨ub,rfl,bl⟩:=hb
 unfold vMg
 have HB:Hid (B≤w.heap.size):=hB
 have AL:Hid (Lies w B 2 ua (entR x.ents)):=al
 have BL:Hid (Lies w B 2 ub (entR x.ents)):=bl
 have L1:Hid (x.ents.length≤1048576):=hn
 have ny:(x.yes != x.yes)=false:=by cases x.yes<;>rfl
 clear al bl hn hB
 have hb0:=below_alloc2 w (.cells #[.int .i64 x.kind,.int .i64 x.frm,.int .i64 x.dst,.int .i64 x.term,.int .i64 x.index,.int .i64 x.iterm,.int .i64 x.commit,.bool x.yes,ua,.string x.data] 41) (.cells #[.int .i64 x.kind,.int .i64 x.frm,.int .i64 x.dst,.int .i64 x.term,.int .i64 x.index,.int .i64 x.iterm,.int .i64 x.commit,.bool x.yes,ub,.string x.data] 41)
 have bA:=(Blk.new w #[.int .i64 x.kind,.int .i64 x.frm,.int .i64 x.dst,.int .i64 x.term,.int .i64 x.index,.int .i64 x.iterm,.int .i64 x.commit,.bool x.yes,ua,.string x.data] 41).alloc (.cells #[.int .i64 x.kind,.int .i64 x.frm,.int .i64 x.dst,.int .i64 x.term,.int .i64 x.index,.int .i64 x.iterm,.int .i64 x.commit,.bool x.yes,ub,.string x.data] 41)
 have bB:=Blk.new (w.alloc (.cells #[.int .i64 x.kind,.int .i64 x.frm,.int .i64 x.dst,.int .i64 x.term,.int .i64 x.index,.int .i64 x.iterm,.int .i64 x.commit,.bool x.yes,ua,.string x.data] 41)) #[.int .i64 x.kind,.int .i64 x.frm,.int .i64 x.dst,.int .i64 x.term,.int .i64 x.index,.int .i64 x.iterm,.int .i64 x.commit,.bool x.yes,ub,.string x.data] 41
 simp only[World.size_alloc] at bA bB
 obtain ⟨W,hW⟩:∃ W,W=(w.alloc (.cells #[.int .i64 x.kind,.int .i64 x.frm,.int .i64 x.dst,.int .i64 x.term,.int .i64 x.index,.int .i64 x.iterm,.int .i64 x.commit,.bool x.yes,ua,.string x.data] 41)).alloc (.cells #[.int .i64 x.kind,.int .i64 x.frm,.int .i64 x.dst,.int .i64 x.term,.int .i64 x.index,.int .i64 x.iterm,.int .i64 x.commit,.bool x.yes,ub,.string x.data] 41):=⟨_,rfl⟩
 rw[← hW] at hb0 bA bB
 have B0:Hid (Below w.heap.size w W):=hb0
 have BA:=Hid.mkM bA
 have BB:=Hid.mkM bB
 go_enter Tryz.func13,Tryz.ntmps13
 clear hb0 bA bB
 go_wp2_with fail
 rw[← hW]
 clear hW
 refine (eqEntryS x.ents ua ub W B (AL.out.on (B0.out.mono HB.out)) (BL.out.on (B0.out.mono HB.out)) L1.out (Nat.le_trans HB.out B0.out.size)).mono ?_
 rintro e w2 ⟨rfl,hb2⟩
 have B2:Hid (Below w.heap.size w w2):=B0.out.trans (hb2.mono B0.out.size)
 have p9:=(BA.out.on hb2 BA.out.lt).cell 9 _ rfl
 have q9:=(BB.out.on hb2 BB.out.lt).cell 9 _ rfl
 clear hb2
 go_wp2_with fail
 go_ret
 exact ⟨rfl,B2.out⟩
set_option maxHeartbeats 2000000 in
theorem markMsg (x:Mg) (u:Value) (base:Nat) (w:World) (hv:Owns w base 129 2 u (entR x.ents)) (hl:x.ents.length≤1048576) (hbase:base≤w.heap.size) :
  Calls Tryz.prog 15 #[vMg x u,.int .i64 1] w fun e w'=>e=.returned (.int .i64 ((1+2*x.ents.length:Nat):Int))∧Owns w' base 129 2 u (newR (mkEnt 1) x.ents.length)∧Below base w w'∧(∀ g,g<w.heap.size→u.ownBlock≠some g→w'.heap[g]?=w.heap[g]?):=by
 unfold vMg
 obtain ⟨A,m,c,rfl⟩:=hv.shape
 have bx:Below w.heap.size w (w.alloc (.cells #[.int .i64 x.kind,.int .i64 x.frm,.int .i64 x.dst,.int .i64 x.term,.int .i64 x.index,.int .i64 x.iterm,.int .i64 x.commit,.bool x.yes,.slice A m c,.string x.data] 41)):=(Below.refl _ _).alloc (Nat.le_refl _) _
 have HB:Hid (base≤w.heap.size):=hbase
 have BX:=Hid.mkM bx
 have c1:=markEntryS 1 base (.slice A m c) (entR x.ents) _ (hv.on bx) (by rw[entR_length];exact hl) (by omega) (by omega) (Nat.le_trans hbase bx.size)
 rw[entR_length] at c1
 clear hv bx hbase
 generalize 1+2*x.ents.length=kk at *
 go_enter Tryz.func15,Tryz.ntmps15
 go_wp2_with fail
 refine c1.mono ?_
 rintro e w1 ⟨rfl,hO,hb,hk⟩
 have R:=Hid.mkM (show _∧_∧_ from ⟨hO,(BX.out.mono HB.out).trans hb,fun g hg hn=>(hk g (Nat.lt_of_lt_of_le hg BX.out.size) hn).trans (BX.out.block g hg)⟩)
 clear hO hb hk
 go_wp2_with fail
 go_ret
 exact ⟨rfl,R.out⟩
set_option maxHeartbeats 2000000 in
theorem heldMsg (x:Mg) (u:Value) (base:Nat) (w:World) (hv:Owns w base 129 2 u (newR (mkEnt 1) x.ents.length)) (hl:x.ents.length≤1048576) :
  Calls Tryz.prog 16 #[vMg x u,.int .i64 1] w fun e w'=>e=.returned (.int .i64 ((1+2*x.ents.length:Nat):Int))∧Below w.heap.size w w':=by
 unfold vMg
 obtain ⟨A,m,c,rfl⟩:=hv.shape
 have bx:Below w.heap.size w (w.alloc (.cells #[.int .i64 x.kind,.int .i64 x.frm,.int .i64 x.dst,.int .i64 x.term,.int .i64 x.index,.int .i64 x.iterm,.int .i64 x.commit,.bool x.yes,.slice A m c,.string x.data] 41)):=(Below.refl _ _).alloc (Nat.le_refl _) _
 have BX:=Hid.mkM bx
 have c1:=heldEntryS 1 x.ents.length (.slice A m c) _ _ (hv.on bx).lies hl (by omega) (by omega) (Nat.le_refl _)
 have dk:decide (((1+2*x.ents.length:Nat):Int)<0)=false:=decide_eq_false (by omega)
 clear hv bx
 generalize 1+2*x.ents.length=kk at *
 go_enter Tryz.func16,Tryz.ntmps16
 go_wp2_with fail
 refine c1.mono ?_
 rintro e w1 ⟨rfl,hb⟩
 have R:=Hid.mkM (BX.out.trans (hb.mono BX.out.size))
 clear hb
 go_wp2_with fail
 go_ret
 exact ⟨rfl,R.out⟩
end Go.Proofs.YtedmdilabbolaaaGreatDoor
namespace Go.Proofs.YtedmdilabbolaaaGreatDoor
open Go.ChangeShapes Go.WideShapes Go.ChangeAt Go.RowKit Go.PlainAid
set_option linter.unusedVariables false
theorem eqMsgN (y:Mg) (w:World):Calls Tryz.prog 13 #[vMg y (.slice none 0 0),vMg y (.slice none 0 0)] w fun e w'=>e=.returned (.bool true)∧Below w.heap.size w w' :=
 eqMsg { y with ents:=[] } (vMg y (.slice none 0 0)) (vMg y (.slice none 0 0)) w w.heap.size ⟨_,rfl,(Owns.nil w w.heap.size 129 2).lies⟩ ⟨_,rfl,(Owns.nil w w.heap.size 129 2).lies⟩ (by simp) (Nat.le_refl _)
theorem markMsgN (y:Mg) (w:World):Calls Tryz.prog 15 #[vMg y (.slice none 0 0),.int .i64 1] w fun e w'=>e=.returned (.int .i64 1)∧Below w.heap.size w w' :=
 (markMsg { y with ents:=[] } (.slice none 0 0) w.heap.size w (Owns.nil _ _ _ _) (by simp) (Nat.le_refl _)).mono fun e w' h=>⟨h.1,h.2.2.1⟩
theorem heldMsgN (y:Mg) (w:World):Calls Tryz.prog 16 #[vMg y (.slice none 0 0),.int .i64 1] w fun e w'=>e=.returned (.int .i64 1)∧Below w.heap.size w w' :=
 (heldMsg { y with ents:=[] } (.slice none 0 0) w.heap.size w (Owns.nil _ _ _ _) (by simp)).mono fun e w' h=>⟨h.1,h.2⟩
end Go.Proofs.YtedmdilabbolaaaGreatDoor
namespace Go.Proofs.YtedmdilabbolaaaGreatDoor
open Go.ChangeShapes Go.WideShapes Go.ChangeAt Go.RowKit Go.PlainAid
set_option linter.unusedVariables false
theorem bit3 {n:Nat} (h:n≤1048576):n≤maxLen:=by unfold maxLen;omega
theorem ShortR.lm {x:Rtr} (h:ShortR x):∀ y∈x.legs,y.key.size≤maxLen∧y.data.size≤1048576∧y.told.size≤maxLen:=fun y hy=>⟨bit3 (h.lx y hy).1,(h.lx y hy).2.1,bit3 (h.lx y hy).2.2⟩
theorem ShortR.tm {x:Rtr} (h:ShortR x):∀ y∈x.todo,y.key.size≤maxLen∧y.data.size≤1048576:=fun y hy=>⟨bit3 (h.tx y hy).1,(h.tx y hy).2⟩
theorem notR_of {w:World} {base:Nat} {x:Rtr} {us ul ut:Value} {g:Nat} {cs:Array Value} {t:TypeId} (h:RtRows w base x us ul ut) (hb:Blk w g cs t) (h1:(3:Nat)≠t) (h2:(74:Nat)≠t) (h3:(67:Nat)≠t):NotR us ul ut g :=
 ⟨two_blk (fun _ q=>h.s.kindR q) hb h1,two_blk (fun _ q=>h.l.kindR q) hb h2,two_blk (fun _ q=>h.t.kindR q) hb h3⟩
set_option maxRecDepth 20000 in
set_option maxHeartbeats 16000000 in
theorem law_fnExactRouterSay (x:Rtr) (v:Value) (d:Int) (w:World) (hv:RtrV w w.heap.size v x) (hf:FitsR x) (hi:True) (hst:SumTab w) (a0 a1 a2:Addr) (he:Errs w a0 a1 a2) :
  Calls Tryz.prog 4 #[v,.int .i64 d] w fun e w'=>e=.returned (.bool true)∧Below w.heap.size w w':=by
 have HV:=Hid.mkQ hv
 have HF:=Hid.mkQ hf
 have HST:=Hid.mkQ hst
 have HER:=Hid.mkQ he
 obtain ⟨us,ul,ut,rfl,-,-,-⟩:=hv
 clear hf hi hst he
 have K0:=Hid.mkQ (Blk.new w #[.int .i64 x.id,us,.bool x.busy,.int .i64 x.call.kind,.string x.call.key,.int .i64 x.call.frm,.int .i64 x.call.til,.string x.call.data,.int .i64 x.begun,ul,ut] 28)
 have B0:Hid (Below w.heap.size w (w.alloc (.cells #[.int .i64 x.id,us,.bool x.busy,.int .i64 x.call.kind,.string x.call.key,.int .i64 x.call.frm,.int .i64 x.call.til,.string x.call.data,.int .i64 x.begun,ul,ut] 28))):=(Below.refl _ _).alloc (Nat.le_refl _) _
 unfold vRtr at HV ⊢
 go_enter Tryz.func4,Tryz.ntmps4
 go_wp2_with fail
 generalize w.alloc (.cells #[.int .i64 x.id,us,.bool x.busy,.int .i64 x.call.kind,.string x.call.key,.int .i64 x.call.frm,.int .i64 x.call.til,.string x.call.data,.int .i64 x.begun,ul,ut] 28)=W at *
 refine (szRouter x _ W w.heap.size 1048576 (by omega) (by omega) (HV.out.on B0.out) HF.out B0.out.size).mono ?_
 rintro e w1 ⟨r,rfl,HRr,hb1⟩
 have B1:Hid (Below w.heap.size w w1):=B0.out.trans (hb1.mono B0.out.size)
 have K1:=Hid.mkQ (K0.out.on hb1 K0.out.lt)
 clear hb1 K0
 rcases HRr.out with rfl | ⟨hr0,hr1⟩
 ·go_wp2_with fail
  go_ret
  exact ⟨rfl,B1.out⟩
 have HW:Hid (wtR x≤1048576):=by unfold Hid;omega
 have HS:=Hid.mkQ (ShortR.of HW.out)
 have hr2:decide (r<0)=false:=decide_eq_false (by omega)
 have HKR:Hid (x.sers.length≤1048576∧x.legs.length≤1048576∧x.todo.length≤1048576∧kR x≤15000000):=by unfold Hid kR kR2 kR1;have:=HW.out;unfold wtR at this;omega
 clear hr1 HRr HW
 have y0:=K1.out.cell 0 _ rfl
 have y1:=K1.out.cell 1 _ rfl
 have y2:=K1.out.cell 2 _ rfl
 have y3:=K1.out.cell 3 _ rfl
 have y4:=K1.out.cell 4 _ rfl
 have y5:=K1.out.cell 5 _ rfl
 have y6:=K1.out.cell 6 _ rfl
 have y7:=K1.out.cell 7 _ rfl
 have y8:=K1.out.cell 8 _ rfl
 have y9:=K1.out.cell 9 _ rfl
 have y10:=K1.out.cell 10 _ rfl
 go_wp2_with fail
 refine (toRouter x _ w1 w.heap.size (HV.out.on B1.out) HS.out B1.out.size).mono ?_
 rintro e w2 ⟨s0,s1,s2,rfl,hO,hb2⟩
 have B2:Hid (Below w.heap.size w w2):=B1.out.trans (hb2.mono B1.out.size)
 have K2:=Hid.mkQ (K1.out.on hb2 K1.out.lt)
 have O2:=Hid.mkQ hO
 clear y0 y1 y2 y3 y4 y5 y6 y7 y8 y9 y10 hb2 hO K1
 have cI:=fun (vx:Value) (wx:World) (h1:RtrV wx wx.heap.size vx x) (hb:Below w.heap.size w wx)=>implRouterSay x d vx wx wx.heap.size h1 (Nat.le_refl _) (bit3 HS.out.k) HS.out.d HS.out.s HS.out.l HS.out.t HS.out.lm HS.out.tm (HST.out.on hb) a0 a1 a2 (HER.out.on hb)
 have hcs:=specRouterSay x d (vRtr x s0 s1 s2) w2 w2.heap.size O2.out.lies (Nat.le_refl _) (bit3 HS.out.k) HS.out.d HS.out.s HS.out.l HS.out.t HS.out.lm HS.out.tm
 generalize sayM x d=y at *
 generalize sayG x d=sg at *
 generalize sayB x d=sb at *
 have n1:(sb != sb)=false:=by cases sb<;>rfl
 have n2:(sg != sg)=false:=by simp
 have qK:decide ((kR x:Int)<0)=false:=decide_eq_false (by omega)
 have cE:=fun wx=>eqMsgN y wx
 have cM:=fun wx=>markMsgN y wx
 have cH:=fun wx=>heldMsgN y wx
 unfold vMg at hcs cI cE cM cH
 unfold vRtr at hcs ⊢
 go_wp2_with fail
 refine hcs.mono ?_
 rintro e w3 ⟨rfl,hb3⟩
 have B3:Hid (Below w.heap.size w w3):=B2.out.trans (hb3.mono B2.out.size)
 have K3:=Hid.mkQ (K2.out.on hb3 K2.out.lt)
 clear hcs hb3 K2 O2
 obtain ⟨W4,hW4⟩:∃ W4,W4=w3.alloc (.cells #[.int .i64 y.kind,.int .i64 y.frm,.int .i64 y.dst,.int .i64 y.term,.int .i64 y.index,.int .i64 y.iterm,.int .i64 y.commit,.bool y.yes,.slice none 0 0,.string y.data] 41):=⟨_,rfl⟩
 have hb4:Below w3.heap.size w3 W4:=by rw[hW4];exact (Below.refl _ _).alloc (Nat.le_refl _) _
 have M4:Hid (Blk W4 w3.heap.size #[.int .i64 y.kind,.int .i64 y.frm,.int .i64 y.dst,.int .i64 y.term,.int .i64 y.index,.int .i64 y.iterm,.int .i64 y.commit,.bool y.yes,.slice none 0 0,.string y.data] 41):=by unfold Hid;rw[hW4];exact Blk.new w3 _ _
 have B4:Hid (Below w.heap.size w W4):=B3.out.trans (hb4.mono B3.out.size)
 have K4:=Hid.mkQ (K3.out.on hb4 K3.out.lt)
 have y0:=K4.out.cell 0 _ rfl
 have y1:=K4.out.cell 1 _ rfl
 have y2:=K4.out.cell 2 _ rfl
 have y3:=K4.out.cell 3 _ rfl
 have y4:=K4.out.cell 4 _ rfl
 have y5:=K4.out.cell 5 _ rfl
 have y6:=K4.out.cell 6 _ rfl
 have y7:=K4.out.cell 7 _ rfl
 have y8:=K4.out.cell 8 _ rfl
 have y9:=K4.out.cell 9 _ rfl
 have y10:=K4.out.cell 10 _ rfl
 rw[hW4] at y0 y1 y2 y3 y4 y5 y6 y7 y8 y9 y10
 clear hb4
 go_wp2_with fail
 rw[← hW4]
 clear hW4 y0 y1 y2 y3 y4 y5 y6 y7 y8 y9 y10 K3 B3
 generalize w3.heap.size=p1 at *
 refine (toRouter x _ W4 w.heap.size (HV.out.on B4.out) HS.out B4.out.size).mono ?_
 rintro e w5 ⟨d0,d1,d2,rfl,hO5,hb5⟩
 have B5:Hid (Below w.heap.size w w5):=B4.out.trans (hb5.mono B4.out.size)
 have K5:=Hid.mkQ (K4.out.on hb5 K4.out.lt)
 have M5:=Hid.mkQ (M4.out.on hb5 M4.out.lt)
 obtain ⟨E0,m0,c0,rfl⟩:∃ A m c,d0=.slice A m c:=by obtain ⟨A,c,e,_⟩:=hO5.s.shape;exact ⟨A,_,c,e⟩
 obtain ⟨E1,m1,c1,rfl⟩:=hO5.l.shape
 obtain ⟨E2,m2,c2,rfl⟩:=hO5.t.shape
 have O5:=Hid.mkQ hO5
 have HZ4:=Hid.mkQ B4.out.size
 have HZ45:=Hid.mkQ hb5.size
 clear hO5 hb5 K4 M4 B4
 unfold vRtr
 obtain ⟨W6,hW6⟩:∃ W6,W6=w5.alloc (.cells #[.int .i64 x.id,.slice E0 m0 c0,.bool x.busy,.int .i64 x.call.kind,.string x.call.key,.int .i64 x.call.frm,.int .i64 x.call.til,.string x.call.data,.int .i64 x.begun,.slice E1 m1 c1,.slice E2 m2 c2] 35):=⟨_,rfl⟩
 have hb6:Below w5.heap.size w5 W6:=by rw[hW6];exact (Below.refl _ _).alloc (Nat.le_refl _) _
 have X6:Hid (Blk W6 w5.heap.size #[.int .i64 x.id,.slice E0 m0 c0,.bool x.busy,.int .i64 x.call.kind,.string x.call.key,.int .i64 x.call.frm,.int .i64 x.call.til,.string x.call.data,.int .i64 x.begun,.slice E1 m1 c1,.slice E2 m2 c2] 35):=by unfold Hid;rw[hW6];exact Blk.new w5 _ _
 have B6:Hid (Below w.heap.size w W6):=B5.out.trans (hb6.mono B5.out.size)
 have K6:=Hid.mkQ (K5.out.on hb6 K5.out.lt)
 have M6:=Hid.mkQ (M5.out.on hb6 M5.out.lt)
 have O6:=Hid.mkQ (O5.out.on hb6)
 have HZ6:Hid (W4.heap.size≤W6.heap.size):=Nat.le_trans HZ45.out hb6.size
 clear hb6 K5 M5 O5 B5
 go_wp2_with fail
 rw[← hW6]
 clear hW6
 generalize w5.heap.size=p2 at *
 have cI6:=cI (vRtr x (.slice E0 m0 c0) (.slice E1 m1 c1) (.slice E2 m2 c2)) W6 O6.out.lies B6.out
 unfold vRtr at cI6
 refine cI6.mono ?_
 rintro e w7 ⟨rfl,hb7⟩
 have B7:Hid (Below w.heap.size w w7):=B6.out.trans (hb7.mono B6.out.size)
 have K7:=Hid.mkQ (K6.out.on hb7 K6.out.lt)
 have M7:=Hid.mkQ (M6.out.on hb7 M6.out.lt)
 have X7:=Hid.mkQ (X6.out.on hb7 X6.out.lt)
 have O7:=Hid.mkQ (O6.out.on hb7)
 have HZ7:Hid (W4.heap.size≤w7.heap.size):=Nat.le_trans HZ6.out hb7.size
 clear cI6 hb7 K6 M6 X6 O6 B6 HZ6
 obtain ⟨W8,hW8⟩:∃ W8,W8=w7.alloc (.cells #[.int .i64 y.kind,.int .i64 y.frm,.int .i64 y.dst,.int .i64 y.term,.int .i64 y.index,.int .i64 y.iterm,.int .i64 y.commit,.bool y.yes,.slice none 0 0,.string y.data] 41):=⟨_,rfl⟩
 have hb8:Below w7.heap.size w7 W8:=by rw[hW8];exact (Below.refl _ _).alloc (Nat.le_refl _) _
 have N8:Hid (Blk W8 w7.heap.size #[.int .i64 y.kind,.int .i64 y.frm,.int .i64 y.dst,.int .i64 y.term,.int .i64 y.index,.int .i64 y.iterm,.int .i64 y.commit,.bool y.yes,.slice none 0 0,.string y.data] 41):=by unfold Hid;rw[hW8];exact Blk.new w7 _ _
 have B8:Hid (Below w.heap.size w W8):=B7.out.trans (hb8.mono B7.out.size)
 have K8:=Hid.mkQ (K7.out.on hb8 K7.out.lt)
 have M8:=Hid.mkQ (M7.out.on hb8 M7.out.lt)
 have X8:=Hid.mkQ (X7.out.on hb8 X7.out.lt)
 have O8:=Hid.mkQ (O7.out.on hb8)
 have HZ8:Hid (W4.heap.size≤W8.heap.size):=Nat.le_trans HZ7.out hb8.size
 have u0:=M8.out.cell 0 _ rfl
 have u1:=M8.out.cell 1 _ rfl
 have u2:=M8.out.cell 2 _ rfl
 have u3:=M8.out.cell 3 _ rfl
 have u4:=M8.out.cell 4 _ rfl
 have u5:=M8.out.cell 5 _ rfl
 have u6:=M8.out.cell 6 _ rfl
 have u7:=M8.out.cell 7 _ rfl
 have u8:=M8.out.cell 8 _ rfl
 have u9:=M8.out.cell 9 _ rfl
 rw[hW8] at u0 u1 u2 u3 u4 u5 u6 u7 u8 u9
 clear hb8
 go_wp2_with fail
 rw[← hW8]
 clear hW8 u0 u1 u2 u3 u4 u5 u6 u7 u8 u9 K7 M7 X7 O7 B7 HZ7
 generalize w7.heap.size=p3 at *
 refine (cE W8).mono ?_
 rintro e w9 ⟨rfl,hb9⟩
 have B9:Hid (Below w.heap.size w w9):=B8.out.trans (hb9.mono B8.out.size)
 have K9:=Hid.mkQ (K8.out.on hb9 K8.out.lt)
 have M9:=Hid.mkQ (M8.out.on hb9 M8.out.lt)
 have X9:=Hid.mkQ (X8.out.on hb9 X8.out.lt)
 have N9:=Hid.mkQ (N8.out.on hb9 N8.out.lt)
 have O9:=Hid.mkQ (O8.out.on hb9)
 have HZ9:Hid (W4.heap.size≤w9.heap.size):=Nat.le_trans HZ8.out hb9.size
 clear hb9 K8 M8 X8 N8 O8 B8 HZ8
 have S0:Hid (w9.drew.cell? ⟨p2,0,none⟩=some (.int .i64 x.id)∧w9.drew.cell? ⟨p2,1,none⟩=some (.slice E0 m0 c0)∧w9.drew.cell? ⟨p2,2,none⟩=some (.bool x.busy)∧w9.drew.cell? ⟨p2,3,none⟩=some (.int .i64 x.call.kind)∧w9.drew.cell? ⟨p2,4,none⟩=some (.string x.call.key)∧w9.drew.cell? ⟨p2,5,none⟩=some (.int .i64 x.call.frm)∧w9.drew.cell? ⟨p2,6,none⟩=some (.int .i64 x.call.til)∧w9.drew.cell? ⟨p2,7,none⟩=some (.string x.call.data)∧w9.drew.cell? ⟨p2,8,none⟩=some (.int .i64 x.begun)∧w9.drew.cell? ⟨p2,9,none⟩=some (.slice E1 m1 c1)∧w9.drew.cell? ⟨p2,10,none⟩=some (.slice E2 m2 c2)∧w9.drew.cell? ⟨w.heap.size,0,none⟩=some (.int .i64 x.id)∧w9.drew.cell? ⟨w.heap.size,1,none⟩=some (us)∧w9.drew.cell? ⟨w.heap.size,2,none⟩=some (.bool x.busy)∧w9.drew.cell? ⟨w.heap.size,3,none⟩=some (.int .i64 x.call.kind)∧w9.drew.cell? ⟨w.heap.size,4,none⟩=some (.string x.call.key)∧w9.drew.cell? ⟨w.heap.size,5,none⟩=some (.int .i64 x.call.frm)∧w9.drew.cell? ⟨w.heap.size,6,none⟩=some (.int .i64 x.call.til)∧w9.drew.cell? ⟨w.heap.size,7,none⟩=some (.string x.call.data)∧w9.drew.cell? ⟨w.heap.size,8,none⟩=some (.int .i64 x.begun)∧w9.drew.cell? ⟨w.heap.size,9,none⟩=some (ul)∧w9.drew.cell? ⟨w.heap.size,10,none⟩=some (ut)):=⟨X9.out.cell 0 _ rfl,X9.out.cell 1 _ rfl,X9.out.cell 2 _ rfl,X9.out.cell 3 _ rfl,X9.out.cell 4 _ rfl,X9.out.cell 5 _ rfl,X9.out.cell 6 _ rfl,X9.out.cell 7 _ rfl,X9.out.cell 8 _ rfl,X9.out.cell 9 _ rfl,X9.out.cell 10 _ rfl,K9.out.cell 0 _ rfl,K9.out.cell 1 _ rfl,K9.out.cell 2 _ rfl,K9.out.cell 3 _ rfl,K9.out.cell 4 _ rfl,K9.out.cell 5 _ rfl,K9.out.cell 6 _ rfl,K9.out.cell 7 _ rfl,K9.out.cell 8 _ rfl,K9.out.cell 9 _ rfl,K9.out.cell 10 _ rfl⟩
 go_wp2_with fail
 refine wp_region_until (fun w'=>w'.cell? ⟨p2,0,none⟩=some (.int .i64 x.id)∧w'.cell? ⟨p2,1,none⟩=some (.slice E0 m0 c0)∧w'.cell? ⟨p2,2,none⟩=some (.bool x.busy)∧w'.cell? ⟨p2,3,none⟩=some (.int .i64 x.call.kind)∧w'.cell? ⟨p2,4,none⟩=some (.string x.call.key)∧w'.cell? ⟨p2,5,none⟩=some (.int .i64 x.call.frm)∧w'.cell? ⟨p2,6,none⟩=some (.int .i64 x.call.til)∧w'.cell? ⟨p2,7,none⟩=some (.string x.call.data)∧w'.cell? ⟨p2,8,none⟩=some (.int .i64 x.begun)∧w'.cell? ⟨p2,9,none⟩=some (.slice E1 m1 c1)∧w'.cell? ⟨p2,10,none⟩=some (.slice E2 m2 c2)∧w'.cell? ⟨w.heap.size,0,none⟩=some (.int .i64 x.id)∧w'.cell? ⟨w.heap.size,1,none⟩=some (us)∧w'.cell? ⟨w.heap.size,2,none⟩=some (.bool x.busy)∧w'.cell? ⟨w.heap.size,3,none⟩=some (.int .i64 x.call.kind)∧w'.cell? ⟨w.heap.size,4,none⟩=some (.string x.call.key)∧w'.cell? ⟨w.heap.size,5,none⟩=some (.int .i64 x.call.frm)∧w'.cell? ⟨w.heap.size,6,none⟩=some (.int .i64 x.call.til)∧w'.cell? ⟨w.heap.size,7,none⟩=some (.string x.call.data)∧w'.cell? ⟨w.heap.size,8,none⟩=some (.int .i64 x.begun)∧w'.cell? ⟨w.heap.size,9,none⟩=some (ul)∧w'.cell? ⟨w.heap.size,10,none⟩=some (ut)) (fun i=>false) 5 (by rfl) (by kernel_rfl) ?_
 refine tF 0 S0.out ?_
 refine tF 1 S0.out ?_
 refine uNe 2 (fun K hK=>?_)
 go_simp
 refine (toRouter x _ w9.drew w.heap.size (HV.out.on B9.out.drew) HS.out B9.out.size).mono ?_
 rintro e Q1 ⟨z0,z1,z2,rfl,hO7,hb7⟩
 have hb71:Below w9.heap.size w9 Q1:=(Below.refl _ w9).drew.trans hb7
 have B10:Hid (Below w.heap.size w Q1):=B9.out.trans (hb71.mono B9.out.size)
 have K10:=Hid.mkQ (K9.out.on hb71 K9.out.lt)
 have M10:=Hid.mkQ (M9.out.on hb71 M9.out.lt)
 have X10:=Hid.mkQ (X9.out.on hb71 X9.out.lt)
 have N10:=Hid.mkQ (N9.out.on hb71 N9.out.lt)
 have O10:=Hid.mkQ (O9.out.on hb71)
 have HZ10:Hid (W4.heap.size≤Q1.heap.size):=Nat.le_trans HZ9.out hb71.size
 have cE2:=eqRouter x (vRtr x (.slice E0 m0 c0) (.slice E1 m1 c1) (.slice E2 m2 c2)) (vRtr x z0 z1 z2) Q1 Q1.heap.size O10.out.lies hO7.lies HS.out (Nat.le_refl _)
 unfold vRtr at cE2 ⊢
 clear hb7 hb71 hO7
 go_wp2_with fail
 refine hK.out _ _ (fun _ _=>⟨X10.out.cell 0 _ rfl,X10.out.cell 1 _ rfl,X10.out.cell 2 _ rfl,X10.out.cell 3 _ rfl,X10.out.cell 4 _ rfl,X10.out.cell 5 _ rfl,X10.out.cell 6 _ rfl,X10.out.cell 7 _ rfl,X10.out.cell 8 _ rfl,X10.out.cell 9 _ rfl,X10.out.cell 10 _ rfl,K10.out.cell 0 _ rfl,K10.out.cell 1 _ rfl,K10.out.cell 2 _ rfl,K10.out.cell 3 _ rfl,K10.out.cell 4 _ rfl,K10.out.cell 5 _ rfl,K10.out.cell 6 _ rfl,K10.out.cell 7 _ rfl,K10.out.cell 8 _ rfl,K10.out.cell 9 _ rfl,K10.out.cell 10 _ rfl⟩) ?_
 clear hK K K9 M9 X9 N9 O9 B9 HZ9
 try simp only[Act.put,zQ1,zQ2,zQ3]
 refine uNe 3 (fun K hK=>?_)
 go_simp
 refine cE2.mono ?_
 rintro e w11 ⟨rfl,hb11⟩
 have B11:Hid (Below w.heap.size w w11):=B10.out.trans (hb11.mono B10.out.size)
 have K11:=Hid.mkQ (K10.out.on hb11 K10.out.lt)
 have M11:=Hid.mkQ (M10.out.on hb11 M10.out.lt)
 have X11:=Hid.mkQ (X10.out.on hb11 X10.out.lt)
 have N11:=Hid.mkQ (N10.out.on hb11 N10.out.lt)
 have O11:=Hid.mkQ (O10.out.on hb11)
 have HZ11:Hid (W4.heap.size≤w11.heap.size):=Nat.le_trans HZ10.out hb11.size
 clear hb11 cE2 K10 M10 X10 N10 O10 B10 HZ10
 go_wp2_with fail
 refine hK.out _ _ (fun _ _=>⟨X11.out.cell 0 _ rfl,X11.out.cell 1 _ rfl,X11.out.cell 2 _ rfl,X11.out.cell 3 _ rfl,X11.out.cell 4 _ rfl,X11.out.cell 5 _ rfl,X11.out.cell 6 _ rfl,X11.out.cell 7 _ rfl,X11.out.cell 8 _ rfl,X11.out.cell 9 _ rfl,X11.out.cell 10 _ rfl,K11.out.cell 0 _ rfl,K11.out.cell 1 _ rfl,K11.out.cell 2 _ rfl,K11.out.cell 3 _ rfl,K11.out.cell 4 _ rfl,K11.out.cell 5 _ rfl,K11.out.cell 6 _ rfl,K11.out.cell 7 _ rfl,K11.out.cell 8 _ rfl,K11.out.cell 9 _ rfl,K11.out.cell 10 _ rfl⟩) ?_
 clear hK K S0
 try simp only[Act.put,zQ1,zQ2,zQ3]
 refine pF 4 ?_
 refine until_done (by kernel_rfl) ?_ _
 have cMR:=markRouter x _ _ _ _ w11 O11.out HKR.out HZ11.out
 unfold vRtr at cMR
 have y0:=X11.out.cell 0 _ rfl
 have y1:=X11.out.cell 1 _ rfl
 have y2:=X11.out.cell 2 _ rfl
 have y3:=X11.out.cell 3 _ rfl
 have y4:=X11.out.cell 4 _ rfl
 have y5:=X11.out.cell 5 _ rfl
 have y6:=X11.out.cell 6 _ rfl
 have y7:=X11.out.cell 7 _ rfl
 have y8:=X11.out.cell 8 _ rfl
 have y9:=X11.out.cell 9 _ rfl
 have y10:=X11.out.cell 10 _ rfl
 go_wp2_with fail
 refine cMR.mono ?_
 rintro e w12 ⟨rfl,-,hbm,hkm⟩
 have B12:Hid (Below w.heap.size w w12):=B11.out.trans (hbm.mono HZ4.out)
 have K12:Hid (Blk w12 w.heap.size #[.int .i64 x.id,us,.bool x.busy,.int .i64 x.call.kind,.string x.call.key,.int .i64 x.call.frm,.int .i64 x.call.til,.string x.call.data,.int .i64 x.begun,ul,ut] 28):=(hkm _ K11.out.lt (notR_of O11.out K11.out (by decide) (by decide) (by decide))).trans K11.out
 have M12:Hid (Blk w12 p1 #[.int .i64 y.kind,.int .i64 y.frm,.int .i64 y.dst,.int .i64 y.term,.int .i64 y.index,.int .i64 y.iterm,.int .i64 y.commit,.bool y.yes,.slice none 0 0,.string y.data] 41):=(hkm _ M11.out.lt (notR_of O11.out M11.out (by decide) (by decide) (by decide))).trans M11.out
 have N12:Hid (Blk w12 p3 #[.int .i64 y.kind,.int .i64 y.frm,.int .i64 y.dst,.int .i64 y.term,.int .i64 y.index,.int .i64 y.iterm,.int .i64 y.commit,.bool y.yes,.slice none 0 0,.string y.data] 41):=(hkm _ N11.out.lt (notR_of O11.out N11.out (by decide) (by decide) (by decide))).trans N11.out
 clear cMR hbm hkm K11 M11 X11 N11 O11 B11 HZ11 y0 y1 y2 y3 y4 y5 y6 y7 y8 y9 y10
 generalize kR x=kk at *
 have dk:decide ((kk:Int)<0)=false:=decide_eq_false (by omega)
 have u0:=M12.out.cell 0 _ rfl
 have u1:=M12.out.cell 1 _ rfl
 have u2:=M12.out.cell 2 _ rfl
 have u3:=M12.out.cell 3 _ rfl
 have u4:=M12.out.cell 4 _ rfl
 have u5:=M12.out.cell 5 _ rfl
 have u6:=M12.out.cell 6 _ rfl
 have u7:=M12.out.cell 7 _ rfl
 have u8:=M12.out.cell 8 _ rfl
 have u9:=M12.out.cell 9 _ rfl
 have t0:=N12.out.cell 0 _ rfl
 have t1:=N12.out.cell 1 _ rfl
 have t2:=N12.out.cell 2 _ rfl
 have t3:=N12.out.cell 3 _ rfl
 have t4:=N12.out.cell 4 _ rfl
 have t5:=N12.out.cell 5 _ rfl
 have t6:=N12.out.cell 6 _ rfl
 have t7:=N12.out.cell 7 _ rfl
 have t8:=N12.out.cell 8 _ rfl
 have t9:=N12.out.cell 9 _ rfl
 go_wp2_with fail
 refine (cE w12).mono ?_
 rintro e w13 ⟨rfl,hb⟩
 have B13:Hid (Below w.heap.size w w13):=B12.out.trans (hb.mono B12.out.size)
 have K13:=Hid.mkQ (K12.out.on hb K12.out.lt)
 have M13:=Hid.mkQ (M12.out.on hb M12.out.lt)
 have N13:=Hid.mkQ (N12.out.on hb N12.out.lt)
 clear hb K12 M12 N12 B12 u0 u1 u2 u3 u4 u5 u6 u7 u8 u9 t0 t1 t2 t3 t4 t5 t6 t7 t8 t9
 have t0:=N13.out.cell 0 _ rfl
 have t1:=N13.out.cell 1 _ rfl
 have t2:=N13.out.cell 2 _ rfl
 have t3:=N13.out.cell 3 _ rfl
 have t4:=N13.out.cell 4 _ rfl
 have t5:=N13.out.cell 5 _ rfl
 have t6:=N13.out.cell 6 _ rfl
 have t7:=N13.out.cell 7 _ rfl
 have t8:=N13.out.cell 8 _ rfl
 have t9:=N13.out.cell 9 _ rfl
 go_wp2_with fail
 refine (cM w13).mono ?_
 rintro e w14 ⟨rfl,hb⟩
 have B14:Hid (Below w.heap.size w w14):=B13.out.trans (hb.mono B13.out.size)
 have K14:=Hid.mkQ (K13.out.on hb K13.out.lt)
 have M14:=Hid.mkQ (M13.out.on hb M13.out.lt)
 have N14:=Hid.mkQ (N13.out.on hb N13.out.lt)
 clear hb K13 M13 N13 B13 t0 t1 t2 t3 t4 t5 t6 t7 t8 t9
 have t0:=N14.out.cell 0 _ rfl
 have t1:=N14.out.cell 1 _ rfl
 have t2:=N14.out.cell 2 _ rfl
 have t3:=N14.out.cell 3 _ rfl
 have t4:=N14.out.cell 4 _ rfl
 have t5:=N14.out.cell 5 _ rfl
 have t6:=N14.out.cell 6 _ rfl
 have t7:=N14.out.cell 7 _ rfl
 have t8:=N14.out.cell 8 _ rfl
 have t9:=N14.out.cell 9 _ rfl
 go_wp2_with fail
 refine (cH w14).mono ?_
 rintro e w15 ⟨rfl,hb⟩
 have B15:Hid (Below w.heap.size w w15):=B14.out.trans (hb.mono B14.out.size)
 have K15:=Hid.mkQ (K14.out.on hb K14.out.lt)
 have M15:=Hid.mkQ (M14.out.on hb M14.out.lt)
 have N15:=Hid.mkQ (N14.out.on hb N14.out.lt)
 clear hb K14 M14 N14 B14 t0 t1 t2 t3 t4 t5 t6 t7 t8 t9
 have y0:=K15.out.cell 0 _ rfl
 have y1:=K15.out.cell 1 _ rfl
 have y2:=K15.out.cell 2 _ rfl
 have y3:=K15.out.cell 3 _ rfl
 have y4:=K15.out.cell 4 _ rfl
 have y5:=K15.out.cell 5 _ rfl
 have y6:=K15.out.cell 6 _ rfl
 have y7:=K15.out.cell 7 _ rfl
 have y8:=K15.out.cell 8 _ rfl
 have y9:=K15.out.cell 9 _ rfl
 have y10:=K15.out.cell 10 _ rfl
 go_wp2_with fail
 refine (toRouter x _ w15 w.heap.size (HV.out.on B15.out) HS.out B15.out.size).mono ?_
 rintro e w16 ⟨f0,f1,f2,rfl,hO,hb⟩
 have B16:Hid (Below w.heap.size w w16):=B15.out.trans (hb.mono B15.out.size)
 have K16:=Hid.mkQ (K15.out.on hb K15.out.lt)
 have M16:=Hid.mkQ (M15.out.on hb M15.out.lt)
 have N16:=Hid.mkQ (N15.out.on hb N15.out.lt)
 have cI16:=cI (vRtr x f0 f1 f2) w16 hO.lies B16.out
 unfold vRtr at cI16 ⊢
 clear hb hO K15 M15 N15 B15 y0 y1 y2 y3 y4 y5 y6 y7 y8 y9 y10
 go_wp2_with fail
 refine cI16.mono ?_
 rintro e w17 ⟨rfl,hb⟩
 have B17:Hid (Below w.heap.size w w17):=B16.out.trans (hb.mono B16.out.size)
 have M17:=Hid.mkQ (M16.out.on hb M16.out.lt)
 have N17:=Hid.mkQ (N16.out.on hb N16.out.lt)
 clear hb K16 M16 N16 B16 cI16
 obtain ⟨W18,hW18⟩:∃ W18,W18=w17.alloc (.cells #[.int .i64 y.kind,.int .i64 y.frm,.int .i64 y.dst,.int .i64 y.term,.int .i64 y.index,.int .i64 y.iterm,.int .i64 y.commit,.bool y.yes,.slice none 0 0,.string y.data] 41):=⟨_,rfl⟩
 have hb8:Below w17.heap.size w17 W18:=by rw[hW18];exact (Below.refl _ _).alloc (Nat.le_refl _) _
 have B18:Hid (Below w.heap.size w W18):=B17.out.trans (hb8.mono B17.out.size)
 have M18:=Hid.mkQ (M17.out.on hb8 M17.out.lt)
 have N18:=Hid.mkQ (N17.out.on hb8 N17.out.lt)
 have u0:=M18.out.cell 0 _ rfl
 have u1:=M18.out.cell 1 _ rfl
 have u2:=M18.out.cell 2 _ rfl
 have u3:=M18.out.cell 3 _ rfl
 have u4:=M18.out.cell 4 _ rfl
 have u5:=M18.out.cell 5 _ rfl
 have u6:=M18.out.cell 6 _ rfl
 have u7:=M18.out.cell 7 _ rfl
 have u8:=M18.out.cell 8 _ rfl
 have u9:=M18.out.cell 9 _ rfl
 rw[hW18] at u0 u1 u2 u3 u4 u5 u6 u7 u8 u9
 clear hb8
 go_wp2_with fail
 rw[← hW18]
 clear hW18 u0 u1 u2 u3 u4 u5 u6 u7 u8 u9 M17 N17 B17
 refine (cE W18).mono ?_
 rintro e w19 ⟨rfl,hb⟩
 have B19:Hid (Below w.heap.size w w19):=B18.out.trans (hb.mono B18.out.size)
 have N19:=Hid.mkQ (N18.out.on hb N18.out.lt)
 clear hb N18 B18
 have t0:=N19.out.cell 0 _ rfl
 have t1:=N19.out.cell 1 _ rfl
 have t2:=N19.out.cell 2 _ rfl
 have t3:=N19.out.cell 3 _ rfl
 have t4:=N19.out.cell 4 _ rfl
 have t5:=N19.out.cell 5 _ rfl
 have t6:=N19.out.cell 6 _ rfl
 have t7:=N19.out.cell 7 _ rfl
 have t8:=N19.out.cell 8 _ rfl
 have t9:=N19.out.cell 9 _ rfl
 go_wp2_with fail
 refine (cH w19).mono ?_
 rintro e w20 ⟨rfl,hb⟩
 have B20:Hid (Below w.heap.size w w20):=B19.out.trans (hb.mono B19.out.size)
 clear hb N19 B19 t0 t1 t2 t3 t4 t5 t6 t7 t8 t9
 go_wp2_with fail
 go_ret
 exact ⟨rfl,B20.out⟩
end Go.Proofs.YtedmdilabbolaaaGreatDoor
