/- BkLaw SeLaw EgS2 IgCm IgCn IgPt IgRes IgP8 -/
import Derived.Test.YthhamlahdjokkaaGreatDoorQe8
import Derived.MapKept
import Derived.WideKeyElems
import Derived.Carry
open List (setIfInBounds_toArray set_cons_zero set_cons_succ)
namespace Go.Proofs.YthhamlahdjokkaaGreatDoor
open Go.ChangeShapes Go.WideShapes Go.ChangeAt Go.RowKit Go.PlainAid
set_option linter.unusedVariables false
theorem Tryz.infoBk : (Tryz.prog.info? 58).map (fun i => (i.zero,i.size,i.bytes)) = some (some (.agg #[.int .i64 0,.int .i64 0]),2,16) := by kernel_rfl
set_option maxHeartbeats 400000 in
theorem eqBucket (x : Pnt) (w : World) : Calls Tryz.prog 72 #[vPt x,vPt x] w fun e w' => e = .returned (.bool true) ∧ Below w.heap.size w w' := by
 unfold vPt
 go_enter Tryz.func72,Tryz.ntmps72
 go_wp2
 go_ret
 exact ⟨rfl,below_alloc2 _ _ _⟩
set_option maxHeartbeats 1000000 in
theorem eqBucketS (l : List Pnt) (va vb : Value) (w : World) (B : Nat) (ha : Lies w B 2 va (ptR l)) (hb : Lies w B 2 vb (ptR l)) (hn : l.length ≤ 1048576) (hB : B ≤ w.heap.size) :
  Calls Tryz.prog 32 #[va,vb] w fun e w' => e = .returned (.bool true) ∧ Below w.heap.size w w' := by
 obtain ⟨A,cap,rfl,hl⟩ := pt_look ha
 obtain ⟨A',cap',rfl,hl'⟩ := pt_look hb
 have HL : Hid (∀ j,j < l.length → ∃ g off,A = some ⟨g,off,none⟩ ∧ g < B ∧ _) := hl
 have HL' : Hid (∀ j,j < l.length → ∃ g off,A' = some ⟨g,off,none⟩ ∧ g < B ∧ _) := hl'
 have HB : Hid (B ≤ w.heap.size) := hB
 clear hl hl' hB ha hb
 have q1 : (l.length : Int) ≤ 1048576 := by omega
 generalize hN : l.length = n at *
 go_enter Tryz.func32,Tryz.ntmps32
 go_wp2_with fail
 go_loopw [5] (fun v5 wr => ∃ k : Nat,k ≤ n ∧ v5 = .int .i64 (k : Int) ∧ Below w.heap.size w wr) (fun i _ => n - (intOf i).toNat)
 case atStart => exact ⟨0,by omega,rfl,Below.refl _ _⟩
 case round =>
  obtain ⟨k,hk,rfl,hb⟩ := hrel
  have HB1 := hQz hb
  clear hb
  by_cases hlt : k < n
  ·have q4 : (k : Int) < (n : Int) := by omega
   obtain ⟨g,off,rfl,hg,ha0,ha1⟩ := HL.out k hlt
   obtain ⟨g',off',rfl,hg',hb0,hb1⟩ := HL'.out k hlt
   have hgw : g < w.heap.size := Nat.lt_of_lt_of_le hg HB.out
   have hgw' : g' < w.heap.size := Nat.lt_of_lt_of_le hg' HB.out
   rw [← HB1.out.cell (p := ⟨_,_,none⟩) hgw] at ha0
   rw [← HB1.out.cell (p := ⟨_,_,none⟩) hgw'] at hb0
   rw [← HB1.out.cell (p := ⟨_,_,none⟩) hgw] at ha1
   rw [← HB1.out.cell (p := ⟨_,_,none⟩) hgw'] at hb1
   have c1 := fun wx => eqBucket (l.getD k default) wx
   unfold vPt at c1
   generalize l.getD k default = x at *
   have hsz := HB1.out.size
   go_wp2_with fail
   go_region_with (go_at_call 72; refine (c1 _).mono ?_; rintro e w1 ⟨rfl,hb1⟩)
   all_goals go_wp2_with fail
   all_goals exact ⟨⟨k + 1,by omega,by go_num,HB1.out.trans (((Below.refl _ wr).drew.trans hb1).mono hsz)⟩,by simp [intOf]; omega⟩
  ·obtain rfl : k = n := by omega
   go_wp2_with fail
   go_ret
   exact ⟨rfl,HB1.out⟩
set_option maxHeartbeats 2000000 in
theorem markBucketS (k base : Nat) (v : Value) (R : List (List Value)) (w : World) (hv : Owns w base 58 2 v R) (hl : R.length ≤ 2097152) (h2 : k ≤ 10000000) :
  Calls Tryz.prog 49 #[v,.int .i64 (k : Int)] w fun e w' => e = .returned (.int .i64 ((k + 2 * R.length : Nat) : Int)) ∧ Owns w' base 58 2 v (newR (mkPt k) R.length) ∧ Below base w w' ∧ (∀ g,v.ownBlock ≠ some g → w'.heap[g]? = w.heap[g]?) := by
 obtain ⟨A,ca,rfl⟩ : ∃ A ca,v = .slice A R.length ca := by
  rcases hv.2.2 with ⟨rfl,h0⟩ | ⟨g,c,cur,rfl,_⟩
  ·exact ⟨none,0,by rw [h0]⟩
  ·exact ⟨_,_,rfl⟩
 have HV := hQz hv
 have q1 : (R.length : Int) ≤ 2097152 := by omega
 have q3 : (k : Int) ≤ 10000000 := by omega
 clear hv hl
 generalize hn : R.length = n at *
 go_enter Tryz.func49,Tryz.ntmps49
 go_wp2_with fail
 go_loopw [1,5] (fun v1 v5 wr => ∃ j : Nat,j ≤ n ∧ v5 = .int .i64 (j : Int) ∧ v1 = .int .i64 ((k + 2 * j : Nat) : Int) ∧ Owns wr base 58 2 (.slice A n ca) (partR (mkPt k) R j) ∧ Below base w wr ∧ (∀ g,(Value.slice A n ca).ownBlock ≠ some g → wr.heap[g]? = w.heap[g]?)) (fun _ i _ => n - (intOf i).toNat)
 case atStart => exact ⟨0,by omega,rfl,by simp,by rw [partR_zero]; exact HV.out,Below.refl _ _,fun _ _ => rfl⟩
 case round =>
  obtain ⟨j,hj,rfl,rfl,hS,hB,hK⟩ := hrel
  have HS := hQz hS
  have HB := hQz hB
  have HK : Hid (∀ g,(Value.slice A n ca).ownBlock ≠ some g → wr.heap[g]? = w.heap[g]?) := hK
  clear hS hB hK
  by_cases hlt : j < n
  ·have q2 : (j : Int) < (n : Int) := by omega
   obtain ⟨g,rfl,hgb⟩ : ∃ g,A = some ⟨g,0,none⟩ ∧ base ≤ g := by
    rcases HS.out.2.2 with ⟨e,h0⟩ | ⟨g,c,cur,e,hg,_⟩
    ·rw [partR_length _ _ _ (by omega),hn] at h0; omega
    ·cases e; exact ⟨g,rfl,hg⟩
   have HG : Hid (base ≤ g) := hgb
   have hpl : (partR (mkPt k) R j).length = n := by rw [partR_length _ _ _ (by omega),hn]
   have hO := HS.out
   rw [show (Value.slice (some ⟨g,0,none⟩) n ca) = .slice (some ⟨g,0,none⟩) (partR (mkPt k) R j).length ca by rw [hpl]] at hO
   obtain ⟨y0,d0⟩ := hO.cellX j 0 (by rw [hpl]; exact hlt) (by omega)
   have f0 := hO.free (j * 2)
   obtain ⟨y1,d1⟩ := hO.cellX j 1 (by rw [hpl]; exact hlt) (by omega)
   have f1 := hO.free (j * 2 + 1)
   rw [Nat.add_zero] at d0
   have hP := hO.put2 j (by rw [hpl]; exact hlt) (.int .i64 ((k + 2 * j : Nat) : Int)) (.int .i64 (((k + 2 * j : Nat) : Int) + 1))
   rw [hpl,show [Value.int .i64 ((k + 2 * j : Nat) : Int),.int .i64 (((k + 2 * j : Nat) : Int) + 1)] = mkPt k j from rfl,partR_set _ _ _ (by omega)] at hP
   have HM : Hid (((k + 2 * (j + 1) : Nat) : Int) = ((k + 2 * j : Nat) : Int) + 2) := by unfold Hid; omega
   have q4 : ((k + 2 * j : Nat) : Int) ≤ 20000000 := by omega
   generalize k + 2 * j = m at *
   have HP := hQz hP
   have HD : Hid (Below base w ((wr.setCell ⟨g,j * 2,none⟩ (.int .i64 (m : Int))).setCell ⟨g,j * 2 + 1,none⟩ (.int .i64 ((m : Int) + 1)))) := (HB.out.setCell (show base ≤ g from HG.out) _).setCell (show base ≤ g from HG.out) _
   have HE : Hid (∀ b,(Value.slice (some ⟨g,0,none⟩) n ca).ownBlock ≠ some b → ((wr.setCell ⟨g,j * 2,none⟩ (.int .i64 (m : Int))).setCell ⟨g,j * 2 + 1,none⟩ (.int .i64 ((m : Int) + 1))).heap[b]? = w.heap[b]?) := fun b hne => by
    rw [Below.heap_setCell _ _ _ _ (show b ≠ g from fun e => hne (by rw [e]; rfl)),Below.heap_setCell _ _ _ _ (show b ≠ g from fun e => hne (by rw [e]; rfl))]
    exact HK.out b hne
   clear hO hP hpl
   go_wp2_with fail
   go_roundw
   case rel => exact ⟨j + 1,by omega,by go_num,by rw [HM.out]; go_num,HP.out,HD.out,HE.out⟩
   case measure => simp [intOf]; omega
  ·obtain rfl : j = n := by omega
   go_wp2_with fail
   go_ret
   refine ⟨rfl,?_,HB.out,HK.out⟩
   have := HS.out
   rw [← hn,partR_all] at this
   rw [← hn]
   exact this
set_option maxHeartbeats 2000000 in
theorem heldBucketS (k n : Nat) (v : Value) (w : World) (B : Nat) (hv : Lies w B 2 v (newR (mkPt k) n)) (hl : n ≤ 2097152) (h2 : k ≤ 10000000) :
  Calls Tryz.prog 52 #[v,.int .i64 (k : Int)] w fun e w' => e = .returned (.int .i64 ((k + 2 * n : Nat) : Int)) ∧ w = w' := by
 obtain ⟨A,ca,rfl,hl'⟩ := mkPt_look hv
 have HL : Hid (∀ j,j < n → ∃ g off,A = some ⟨g,off,none⟩ ∧ g < B ∧ _) := hl'
 have q1 : (n : Int) ≤ 2097152 := by omega
 have q3 : (k : Int) ≤ 10000000 := by omega
 clear hv hl hl'
 go_enter Tryz.func52,Tryz.ntmps52
 go_wp2
 go_loop [1,5] (fun v1 v5 => ∃ j : Nat,j ≤ n ∧ v5 = .int .i64 (j : Int) ∧ v1 = .int .i64 ((k + 2 * j : Nat) : Int)) (fun _ i => n - (intOf i).toNat)
 case atStart => exact ⟨0,by omega,rfl,by simp⟩
 case round =>
  obtain ⟨j,hj,rfl,rfl⟩ := hrel
  by_cases hlt : j < n
  ·have q2 : (j : Int) < (n : Int) := by omega
   obtain ⟨g,off,rfl,hg,d0,d1⟩ := HL.out j hlt
   have HM : Hid (((k + 2 * (j + 1) : Nat) : Int) = ((k + 2 * j : Nat) : Int) + 2) := by unfold Hid; omega
   have q4 : ((k + 2 * j : Nat) : Int) ≤ 20000000 := by omega
   generalize k + 2 * j = m at *
   go_wp2
   go_round
   case rel => exact ⟨j + 1,by omega,by go_num,by rw [HM.out]; go_num⟩
   case measure => simp [intOf]; omega
  ·obtain rfl : j = n := by omega
   go_wp2
   go_ret
   exact ⟨rfl,rfl⟩
theorem below_s2 (w : World) (a b : Obj) : Below w.heap.size w ((w.alloc a).alloc b) := ((Below.refl _ w).alloc (Nat.le_refl _) a).alloc (by simp) b
def vSes (x : Ses) : Value := .agg #[.int .i64 x.client,.int .i64 x.serial,.int .i64 x.code,.int .i64 x.index,.int .i64 x.mark,.string x.data]
theorem Tryz.infoSes : (Tryz.prog.info? 53).map (fun i => (i.zero,i.size,i.bytes)) = some (some (.agg #[.int .i64 0,.int .i64 0,.int .i64 0,.int .i64 0,.int .i64 0,.string ⟨#[]⟩]),6,56) := by kernel_rfl
set_option maxHeartbeats 400000 in
theorem eqAnswer (x : Ans) (w : World) : Calls Tryz.prog 111 #[vAns x,vAns x] w fun e w' => e = .returned (.bool true) ∧ Below w.heap.size w w' := by
 unfold vAns
 go_enter Tryz.func111,Tryz.ntmps111
 go_wp2
 go_ret
 exact ⟨rfl,below_s2 _ _ _⟩
set_option maxHeartbeats 400000 in
theorem eqSession (x : Ses) (w : World) : Calls Tryz.prog 75 #[vSes x,vSes x] w fun e w' => e = .returned (.bool true) ∧ Below w.heap.size w w' := by
 unfold vSes
 have c1 := fun wx => eqAnswer x.ans wx
 unfold vAns Ses.ans at c1
 simp only at c1
 have HB := fun a b => below_s2 w a b
 go_enter Tryz.func75,Tryz.ntmps75
 go_wp2_with fail
 refine (c1 _).mono ?_
 rintro e w1 ⟨rfl,hb⟩
 have B1 : Hid (Below w.heap.size w w1) := (HB _ _).trans (hb.mono (HB _ _).size)
 clear hb HB
 go_wp2_with fail
 go_ret
 exact ⟨rfl,B1.out⟩
set_option maxHeartbeats 1000000 in
theorem eqSessionS (l : List Ses) (va vb : Value) (w : World) (B : Nat) (ha : Lies w B 6 va (sesR l)) (hb : Lies w B 6 vb (sesR l)) (hn : l.length ≤ 1048576) (hB : B ≤ w.heap.size) :
  Calls Tryz.prog 34 #[va,vb] w fun e w' => e = .returned (.bool true) ∧ Below w.heap.size w w' := by
 obtain ⟨A,cap,rfl,hl⟩ := ses_look ha
 obtain ⟨A',cap',rfl,hl'⟩ := ses_look hb
 have HL : Hid (∀ j,j < l.length → ∃ g off,A = some ⟨g,off,none⟩ ∧ g < B ∧ _) := hl
 have HL' : Hid (∀ j,j < l.length → ∃ g off,A' = some ⟨g,off,none⟩ ∧ g < B ∧ _) := hl'
 have HB : Hid (B ≤ w.heap.size) := hB
 clear hl hl' hB ha hb
 have q1 : (l.length : Int) ≤ 1048576 := by omega
 generalize hN : l.length = n at *
 go_enter Tryz.func34,Tryz.ntmps34
 go_wp2_with fail
 go_loopw [5] (fun v5 wr => ∃ k : Nat,k ≤ n ∧ v5 = .int .i64 (k : Int) ∧ Below w.heap.size w wr) (fun i _ => n - (intOf i).toNat)
 case atStart => exact ⟨0,by omega,rfl,Below.refl _ _⟩
 case round =>
  obtain ⟨k,hk,rfl,hb⟩ := hrel
  have HB1 := hQz hb
  clear hb
  by_cases hlt : k < n
  ·have q4 : (k : Int) < (n : Int) := by omega
   obtain ⟨g,off,rfl,hg,ha0,ha1,ha2,ha3,ha4,ha5⟩ := HL.out k hlt
   obtain ⟨g',off',rfl,hg',hb0,hb1,hb2,hb3,hb4,hb5⟩ := HL'.out k hlt
   have hgw : g < w.heap.size := Nat.lt_of_lt_of_le hg HB.out
   have hgw' : g' < w.heap.size := Nat.lt_of_lt_of_le hg' HB.out
   rw [← HB1.out.cell (p := ⟨_,_,none⟩) hgw] at ha0
   rw [← HB1.out.cell (p := ⟨_,_,none⟩) hgw'] at hb0
   rw [← HB1.out.cell (p := ⟨_,_,none⟩) hgw] at ha1
   rw [← HB1.out.cell (p := ⟨_,_,none⟩) hgw'] at hb1
   rw [← HB1.out.cell (p := ⟨_,_,none⟩) hgw] at ha2
   rw [← HB1.out.cell (p := ⟨_,_,none⟩) hgw'] at hb2
   rw [← HB1.out.cell (p := ⟨_,_,none⟩) hgw] at ha3
   rw [← HB1.out.cell (p := ⟨_,_,none⟩) hgw'] at hb3
   rw [← HB1.out.cell (p := ⟨_,_,none⟩) hgw] at ha4
   rw [← HB1.out.cell (p := ⟨_,_,none⟩) hgw'] at hb4
   rw [← HB1.out.cell (p := ⟨_,_,none⟩) hgw] at ha5
   rw [← HB1.out.cell (p := ⟨_,_,none⟩) hgw'] at hb5
   have c1 := fun wx => eqSession (l.getD k default) wx
   unfold vSes at c1
   generalize l.getD k default = x at *
   have hsz := HB1.out.size
   go_wp2_with fail
   go_region_with (go_at_call 75; refine (c1 _).mono ?_; rintro e w1 ⟨rfl,hb1⟩)
   all_goals go_wp2_with fail
   all_goals exact ⟨⟨k + 1,by omega,by go_num,HB1.out.trans (((Below.refl _ wr).drew.trans hb1).mono hsz)⟩,by simp [intOf]; omega⟩
  ·obtain rfl : k = n := by omega
   go_wp2_with fail
   go_ret
   exact ⟨rfl,HB1.out⟩
theorem infoStr : (Tryz.prog.info? 9).map (fun i => (i.zero,i.size,i.bytes)) = some (some (.string ⟨#[]⟩),1,16) := by kernel_rfl
def nmF (key : ByteArray) (s : List ByteArray × Bool) (x : ByteArray) : List ByteArray × Bool := if s.2 = false ∧ ahd key x = true then (s.1 ++ [key] ++ [x],true) else (s.1 ++ [x],s.2)
def nmS (l : List ByteArray) (key : ByteArray) (k : Nat) : List ByteArray × Bool := (l.take k).foldl (nmF key) ([],false)
theorem nmS_succ (l : List ByteArray) (key : ByteArray) (k : Nat) (h : k < l.length) : nmS l key (k + 1) = nmF key (nmS l key k) (l.getD k default) := by
 unfold nmS
 rw [take_getD l k h,List.foldl_append]
 rfl
def nmFin (key : ByteArray) (s : List ByteArray × Bool) : List ByteArray := if s.2 then s.1 else s.1 ++ [key]
theorem nm_done (key : ByteArray) : ∀ (l o : List ByteArray),l.foldl (nmF key) (o,true) = (o ++ l,true)
 | [],o => by simp
 | x :: l,o => by
  have e : nmF key (o,true) x = (o ++ [x],true) := by simp [nmF]
  rw [List.foldl_cons,e,nm_done key l]
  simp
theorem nm_open (key : ByteArray) : ∀ (l o : List ByteArray),(∀ x ∈ l,x ≠ key) → nmFin key (l.foldl (nmF key) (o,false)) = o ++ insK l key
 | [],o,_ => by simp [nmFin,insK]
 | x :: l,o,h => by
  have hx := h x (by simp)
  by_cases h2 : ahd key x = true
  ·have e : nmF key (o,false) x = (o ++ [key] ++ [x],true) := by simp [nmF,h2]
   rw [List.foldl_cons,e,nm_done,insK,if_neg hx,if_pos h2]
   simp [nmFin]
  ·have e : nmF key (o,false) x = (o ++ [x],false) := by simp [nmF,h2]
   rw [List.foldl_cons,e,nm_open key l _ fun y hy => h y (by simp [hy]),insK,if_neg hx,if_neg h2]
   simp
theorem nm_all {l : List ByteArray} {key : ByteArray} (h : ∀ x ∈ l,x ≠ key) : nmFin key (nmS l key l.length) = insK l key := by
 unfold nmS
 rw [List.take_length,nm_open key l [] h,List.nil_append]
theorem insK_mem {key : ByteArray} : ∀ {l : List ByteArray},RiseK l → key ∈ l → insK l key = l
 | x :: l,hl,h => by
  have hl' := List.pairwise_cons.1 hl
  by_cases e : x = key
  ·rw [insK,if_pos e]
  ·have hk : key ∈ l := by
    rcases List.mem_cons.1 h with e2 | h2
    ·exact absurd e2.symm e
    ·exact h2
   have h2 : ¬ ahd key x = true := fun h2 => absurd rfl (ahd_ne (ahd_trans h2 (hl'.1 key hk)))
   rw [insK,if_neg e,if_neg h2,insK_mem hl'.2 hk]
theorem nmS_len (l : List ByteArray) (key : ByteArray) : ∀ k,k ≤ l.length → (nmS l key k).1.length ≤ 2 * k
 | 0,_ => by simp [nmS]
 | k + 1,h => by
  have ih := nmS_len l key k (by omega)
  rw [nmS_succ l key k (by omega),nmF]
  split
  ·simp; omega
  ·simp; omega
theorem st_cell (x : ByteArray) : ∀ u ∈ ([.string x] : List Value),u.oneCell' = true := by
 intro u hu
 simp only [List.mem_cons,List.not_mem_nil,or_false] at hu
 rw [hu]; rfl
set_option maxHeartbeats 2000000 in
theorem specName (l : List ByteArray) (key : ByteArray) (v : Value) (w : World) (base : Nat) (hv : Owns w base 9 1 v (stR l)) (hn : l.length ≤ 1000) (hr : RiseK l) (hb : base ≤ w.heap.size) :
  Calls Tryz.prog 144 #[v,.string key] w fun e w' => (∃ u,e = .returned u ∧ Owns w' base 9 1 u (stR (insK l key))) ∧ Below w.heap.size w w' := by
 obtain ⟨A,cap,rfl,hl⟩ := st_look hv.lies
 have HV := hQz hv
 have HL : Hid (∀ j,j < l.length → ∃ g off,A = some ⟨g,off,none⟩ ∧ g < w.heap.size ∧ w.cell? ⟨g,off + j,none⟩ = some (.string (l.getD j default))) := hl
 have HR : Hid (RiseK l) := hr
 have HB : Hid (base ≤ w.heap.size) := hb
 have HS : Hid (∀ k,k < l.length → nmS l key (k + 1) = nmF key (nmS l key k) (l.getD k default)) := fun k hk => nmS_succ l key k hk
 have HSl : Hid (∀ k,k ≤ l.length → (nmS l key k).1.length ≤ 2 * k) := nmS_len l key
 have q1 : (l.length : Int) ≤ 1000 := by omega
 clear hl hv hr hb hn
 generalize hN : l.length = n at *
 have HN : Hid (l.length = n) := hN
 clear hN
 have BE : Hid (Below w.heap.size w (w.alloc (.cells #[] 9))) := (Below.refl _ w).alloc (Nat.le_refl _) _
 have OE : Hid (Owns (w.alloc (.cells #[] 9)) w.heap.size 9 1 (.slice (some ⟨w.heap.size,0,none⟩) 0 0) (stR [])) := Owns.empty w w.heap.size 9 1 (Nat.le_refl _)
 go_enter Tryz.func144,Tryz.ntmps144
 go_wp2_with fail
 go_loopw [5,6,7] (fun v5 v6 v7 wr => ∃ k : Nat,k ≤ n ∧ v7 = .int .i64 (k : Int) ∧ v6 = .bool (nmS l key k).2 ∧ Hid (∀ i,i < k → l.getD i default ≠ key) ∧ Owns wr w.heap.size 9 1 v5 (stR (nmS l key k).1) ∧ Below w.heap.size w wr) (fun _ _ i _ => n - (intOf i).toNat)
 case atStart => exact ⟨0,by omega,rfl,rfl,fun i hi => by omega,OE.out,BE.out⟩
 case round =>
  obtain ⟨k,hk,rfl,rfl,HJ,hO,hB⟩ := hrel
  have HO := hQz hO
  have HBr := hQz hB
  obtain ⟨A5,n5,c5,rfl⟩ := hO.shape
  clear hO hB
  by_cases hlt : k < n
  ·have q4 : (k : Int) < (n : Int) := by omega
   obtain ⟨g,off,rfl,hg,e1⟩ := HL.out k hlt
   rw [← HBr.out.cell (p := ⟨_,_,none⟩) hg] at e1
   by_cases hkey : l.getD k default = key
   ·have HF : Hid (insK l key = l) := insK_mem HR.out (by rw [← hkey]; exact getD_mem l k (by rw [HN.out]; exact hlt))
    rw [hkey] at e1
    clear hkey
    go_wp2_with fail
    go_ret
    refine ⟨⟨_,rfl,?_⟩,HBr.out⟩
    rw [HF.out]
    exact HV.out.on HBr.out
   ·have HK : Hid (l.getD k default ≠ key) := hkey
    have hne := bytes_ne hkey
    have HSk := HS.out k hlt
    have HLk := HSl.out k hk
    have HSe : Hid (nmS l key (k + 1) = nmF key (nmS l key k) (l.getD k default)) := HSk
    have HJn : Hid (∀ i,i < k + 1 → l.getD i default ≠ key) := fun i hi => by
     by_cases e : i = k
     ·rw [e]; exact HK.out
     ·exact HJ.out i (by omega)
    clear hkey HSk HJ HK
    have Z : w.heap.size ≤ wr.heap.size := HBr.out.size
    have L2 : Hid ((stR (nmS l key k).1).length ≤ 2097152) := by unfold Hid; rw [stR_length]; omega
    clear HLk
    by_cases hput : (nmS l key k).2 = false ∧ ahd key (l.getD k default) = true
    ·have HE : Hid (nmS l key (k + 1) = ((nmS l key k).1 ++ [key] ++ [l.getD k default],true)) := by
      unfold Hid
      rw [HSe.out,nmF,if_pos hput]
     have HLk := hQz (HSl.out k hk)
     obtain ⟨hp1,hp2⟩ := hput
     unfold ahd at hp2
     rw [hp1]
     generalize (nmS l key k).1 = o at *
     generalize l.getD k default = x at *
     have hW : ∀ z : World,Hid (w.heap.size ≤ z.heap.size ∧ (stR (o ++ [key])).length ≤ 2097152) → True := fun _ _ => trivial
     have L3 : Hid ((stR (o ++ [key])).length ≤ 2097152) := by have := HLk.out; unfold Hid; rw [stR_length,List.length_append,List.length_singleton]; omega
     clear hW hp1
     go_wp2_with (at_builtin; refine wpList_append_row rfl (.tmp 32) (.tmp 34) 24 9 (.string ⟨#[]⟩) 1 16 rfl Tryz.underlying24 infoStr rfl (by omega) w.heap.size _ (stR o) rfl HO.out [.string key] rfl (st_cell key) rfl L2.out (by omega) Z ?_; intro v' w2 hO2 hb2 hk2 hw2; obtain ⟨A2,n2,c2,rfl⟩ := hO2.shape; refine Shut.out ?_)
     unfold Shut
     have B2 := hQz (HBr.out.trans hb2)
     have hc2 := e1
     rw [← hb2.cell (p := ⟨_,_,none⟩) hg] at hc2
     have O2 : Hid (Owns w2 w.heap.size 9 1 (.slice A2 n2 c2) (stR (o ++ [key]))) := by rw [stR_append]; exact hO2
     have Z2 : w.heap.size ≤ w2.heap.size := B2.out.size
     clear hO2 hb2 hk2 hw2 e1
     go_wp2_with (at_builtin; refine wpList_append_row rfl (.tmp 36) (.tmp 41) 24 9 (.string ⟨#[]⟩) 1 16 rfl Tryz.underlying24 infoStr rfl (by omega) w.heap.size _ (stR (o ++ [key])) rfl O2.out [.string x] rfl (st_cell x) rfl L3.out (by omega) Z2 ?_; intro v3 w3 hO3 hb3 hk3 hw3; obtain ⟨A3,n3,c3,rfl⟩ := hO3.shape; refine Shut.out ?_)
     unfold Shut
     have O3 : Hid (Owns w3 w.heap.size 9 1 (.slice A3 n3 c3) (stR (o ++ [key] ++ [x]))) := by rw [stR_append (o ++ [key])]; exact hO3
     have B3 := hQz (B2.out.trans hb3)
     clear hO3 hb3 hk3 hw3 hc2
     go_wp2_with fail
     go_roundw
     case rel => exact ⟨k + 1,by omega,by go_num,by rw [HE.out],HJn,by rw [HE.out]; exact O3.out,B3.out⟩
     case measure => simp [intOf]; omega
    ·have HE : Hid (nmS l key (k + 1) = ((nmS l key k).1 ++ [l.getD k default],(nmS l key k).2)) := by
      unfold Hid
      rw [HSe.out,nmF,if_neg hput]
     have hb : (nmS l key k).2 = true ∨ (nmS l key k).2 = false ∧ Op.bytesLess key.toList (l.getD k default).toList = false := by
      cases e : (nmS l key k).2 with
      | true => exact .inl rfl
      | false =>
       refine .inr ⟨rfl,?_⟩
       cases e2 : Op.bytesLess key.toList (l.getD k default).toList with
       | false => rfl
       | true => exact absurd ⟨e,e2⟩ hput
     clear hput
     generalize (nmS l key k).1 = o at *
     generalize l.getD k default = x at *
     have fin : ∀ (b : Bool) (A3 : Option Addr) (n3 c3 : Nat) (w3 : World),True := fun _ _ _ _ _ => trivial
     clear fin
     rcases hb with hb | ⟨hb,hb2⟩
     ·rw [hb] at HE ⊢
      clear hb
      go_wp2_with (at_builtin; refine wpList_append_row rfl (.tmp 36) (.tmp 41) 24 9 (.string ⟨#[]⟩) 1 16 rfl Tryz.underlying24 infoStr rfl (by omega) w.heap.size _ (stR o) rfl HO.out [.string x] rfl (st_cell x) rfl L2.out (by omega) Z ?_; intro v3 w3 hO3 hb3 hk3 hw3; obtain ⟨A3,n3,c3,rfl⟩ := hO3.shape; refine Shut.out ?_)
      unfold Shut
      have O3 : Hid (Owns w3 w.heap.size 9 1 (.slice A3 n3 c3) (stR (o ++ [x]))) := by rw [stR_append]; exact hO3
      have B3 := hQz (HBr.out.trans hb3)
      clear hO3 hb3 hk3 hw3 e1
      go_wp2_with fail
      go_roundw
      case rel => exact ⟨k + 1,by omega,by go_num,by rw [HE.out],HJn,by rw [HE.out]; exact O3.out,B3.out⟩
      case measure => simp [intOf]; omega
     ·rw [hb] at HE ⊢
      clear hb
      go_wp2_with (at_builtin; refine wpList_append_row rfl (.tmp 36) (.tmp 41) 24 9 (.string ⟨#[]⟩) 1 16 rfl Tryz.underlying24 infoStr rfl (by omega) w.heap.size _ (stR o) rfl HO.out [.string x] rfl (st_cell x) rfl L2.out (by omega) Z ?_; intro v3 w3 hO3 hb3 hk3 hw3; obtain ⟨A3,n3,c3,rfl⟩ := hO3.shape; refine Shut.out ?_)
      unfold Shut
      have O3 : Hid (Owns w3 w.heap.size 9 1 (.slice A3 n3 c3) (stR (o ++ [x]))) := by rw [stR_append]; exact hO3
      have B3 := hQz (HBr.out.trans hb3)
      clear hO3 hb3 hk3 hw3 e1
      go_wp2_with fail
      go_roundw
      case rel => exact ⟨k + 1,by omega,by go_num,by rw [HE.out],HJn,by rw [HE.out]; exact O3.out,B3.out⟩
      case measure => simp [intOf]; omega
  ·obtain rfl : k = n := by omega
   have HF : Hid (nmFin key (nmS l key k) = insK l key) := by
    unfold Hid
    rw [← HN.out]
    refine nm_all fun x hx => ?_
    obtain ⟨j,hj,rfl⟩ := List.getElem_of_mem hx
    rw [getD_at l j hj]
    exact HJ.out j (by rw [← HN.out]; exact hj)
   have HLk := hQz (HSl.out k hk)
   have Z : w.heap.size ≤ wr.heap.size := HBr.out.size
   have L2 : Hid ((stR (nmS l key k).1).length ≤ 2097152) := by have := HLk.out; unfold Hid; rw [stR_length]; omega
   unfold nmFin at HF
   cases hb : (nmS l key k).2 with
   | true =>
    rw [hb] at HF
    go_wp2_with fail
    go_ret
    refine ⟨⟨_,rfl,?_⟩,HBr.out⟩
    have := HF.out
    simp only [if_true] at this
    rw [← this]
    exact HO.out.mono HB.out
   | false =>
    rw [hb] at HF
    generalize (nmS l key k).1 = o at *
    go_wp2_with (at_builtin; refine wpList_append_row rfl (.tmp 45) (.tmp 47) 24 9 (.string ⟨#[]⟩) 1 16 rfl Tryz.underlying24 infoStr rfl (by omega) w.heap.size _ (stR o) rfl HO.out [.string key] rfl (st_cell key) rfl L2.out (by omega) Z ?_; intro v3 w3 hO3 hb3 hk3 hw3; obtain ⟨A3,n3,c3,rfl⟩ := hO3.shape; refine Shut.out ?_)
    unfold Shut
    have O3 : Hid (Owns w3 w.heap.size 9 1 (.slice A3 n3 c3) (stR (o ++ [key]))) := by rw [stR_append]; exact hO3
    have B3 := hQz (HBr.out.trans hb3)
    clear hO3 hb3 hk3 hw3
    go_wp2_with fail
    go_ret
    refine ⟨⟨_,rfl,?_⟩,B3.out⟩
    have := HF.out
    rw [if_neg (by simp)] at this
    rw [← this]
    exact O3.out.mono HB.out
theorem IgE.app {X Y : World} {gr gx b2 b3 b5 b6 b9 base sz : Nat} {T : TypeId} {v : Value} {rows : List (List Value)} (e : IgE X gr gx b2 b3 b5 b6 b9) (ho : Owns X base T sz v rows) (h1 : T ≠ 85) (h2 : T ≠ 144) (h3 : T ≠ 81) (h4 : T ≠ 59) (hk : ∀ g,g < X.heap.size → v.ownBlock ≠ some g → Y.heap[g]? = X.heap[g]?) : IgE Y gr gx b2 b3 b5 b6 b9 :=
 ⟨(hk b2 e.c2.lt (ho.notBlk e.c2 h1)).trans e.c2,(hk b3 e.c3.lt (ho.notBlk e.c3 h2)).trans e.c3,(hk b5 e.c5.lt (ho.notBlk e.c5 h3)).trans e.c5,(hk b6 e.c6.lt (ho.notBlk e.c6 h4)).trans e.c6,e.o1,e.o2,e.o3,e.o5,e.o6,(hk b9 (Array.getElem?_eq_some_iff.1 e.cm).1 (fun h => by obtain ⟨c,fz,e1⟩ := Lib.ownsRow_kind ho.2 _ h; rw [e.cm] at e1; cases e1)).trans e.cm,e.o9⟩
theorem CKeep.app {gr gx base : Nat} {X Y Z : World} (h : CKeep gr gx X Y) (hb : Below base Y Z) (h1 : gr < gx) (h2 : gx < base) : CKeep gr gx X Z := h.trans ⟨hb.mono (by omega),fun b _ hl => hb.block b (by omega)⟩
theorem ses_cellsI (a b c d e : Int) (t : ByteArray) : ∀ u ∈ ([.int .i64 a,.int .i64 b,.int .i64 c,.int .i64 d,.int .i64 e,.string t] : List Value),u.oneCell' = true := by
 intro y hy
 simp only [List.mem_cons,List.not_mem_nil,or_false] at hy
 rcases hy with rfl | rfl | rfl | rfl | rfl | rfl <;> rfl
def CaI (s : ByteArray) (n base gr gx b2 b3 b5 b6 b9 : Nat) (k h m f : Int) (vb vf vs : Value) (bks : List Pnt) (fs : List ByteArray) (ses : List Ses) (w : World) (e : Ending) (w' : World) : Prop := ((∃ c n' vc L,PcRd s n c n' ∧ CaRd c (L.map Prod.fst) ∧ e = .returned (.tuple #[]) ∧ Prt w' gr (lf s n') ∧ IgS w' base gx k h m f vb vc vf vs bks L fs ses ∧ IgE w' gr gx b2 b3 b5 b6 b9) ∨ ((∀ c n' l,PcRd s n c n' → ¬ CaRd c l) ∧ e = .panicked lackP)) ∧ CKeep gr gx w w'
set_option maxHeartbeats 2000000 in
theorem takeCache (s : ByteArray) (n base gr gx b2 b3 b5 b6 b9 : Nat) (k h m f : Int) (vb vc vf vs : Value) (bks : List Pnt) (L : List (Ser × Value)) (fs : List ByteArray) (ses : List Ses) (w : World) (hs : s.size ≤ 1048576) (hp : Prt w gr (lf s n)) (hi : IgS w base gx k h m f vb vc vf vs bks L fs ses) (he : IgE w gr gx b2 b3 b5 b6 b9) (hbs : base ≤ w.heap.size) (w0 : World) (hst : SumTab w0) (a0 a1 a2 : Addr) (her : Errs w0 a0 a1 a2) (hb0 : Below w0.heap.size w0 w) (hg0 : w0.heap.size ≤ gr) :
  Calls Tryz.prog 132 #[.pointer (some ⟨b5,0,none⟩),.pointer (some ⟨b3,0,none⟩)] w fun e w' => CaI s n base gr gx b2 b3 b5 b6 b9 k h m f vb vf vs bks fs ses w e w' := by
 have HS : Hid (s.size ≤ 1048576) := hs
 have HR : Hid (gr < gx) := he.o1
 have HG0 : Hid (w0.heap.size ≤ gr) := hg0
 have ST := hQz hst
 have ER := hQz her
 have P0 : Hid (Prt w.drew gr (lf s n)) := hp
 have I0 := Hid.mk hi.drew
 have E0 : Hid (IgE w.drew gr gx b2 b3 b5 b6 b9) := he.keep fun _ _ => rfl
 have C0 := Hid.mk (CKeep.drew gr gx w)
 have B0 : Hid (Below w0.heap.size w0 w.drew) := hb0.drew
 have HBS : Hid (base ≤ w.drew.heap.size) := hbs
 have HB2 : Hid (b2 ≠ gr) := by have := he.o1; have := he.o2; unfold Hid; omega
 clear hs hp hi he hst her hb0 hg0 hbs
 have S0 : Hid (w.drew.cell? ⟨b3,0,none⟩ = some (.pointer (some ⟨gx,0,none⟩)) ∧ w.drew.cell? ⟨b5,0,none⟩ = some (.func (.func 124) #[] #[.pointer (some ⟨b2,0,none⟩)])) := ⟨E0.out.c3.cell 0 _ rfl,E0.out.c5.cell 0 _ rfl⟩
 go_enter Tryz.func132,Tryz.ntmps132
 go_wp2_with fail
 refine wp_region_until (fun w' => w'.cell? ⟨b3,0,none⟩ = some (.pointer (some ⟨gx,0,none⟩)) ∧ w'.cell? ⟨b5,0,none⟩ = some (.func (.func 124) #[] #[.pointer (some ⟨b2,0,none⟩)])) (fun _ => false) 8 (by rfl) (by kernel_rfl) ?_
 generalize w.drew = X0 at *
 refine tF 0 S0.out ?_
 refine tF 1 S0.out ?_
 refine uNe 2 (fun K hK => ?_)
 go_simp
 refine (takePiece b2 gr s n X0 (E0.out.c2.cell 0 _ rfl) E0.out.c2.lt HB2.out P0.out HS.out).mono ?_
 rintro e X1 ⟨hR,hk⟩
 have I1 := Hid.mk (I0.out.part HR.out hk)
 have E1 := Hid.mk (E0.out.part hk)
 have C1 := Hid.mk (C0.out.part hk (Nat.le_of_lt I0.out.box.lt))
 have B1 : Hid (Below w0.heap.size w0 X1) := B0.out.trans (hk.1.mono HG0.out)
 have HBS1 := hQz (Nat.le_trans HBS.out hk.1.size)
 clear hk I0 E0 C0 P0 S0 B0 HBS
 rcases hR with ⟨c,n',hP,rfl,hp⟩ | ⟨hno,rfl⟩
 rotate_left
 ·have HN : Hid (∀ c n' l,PcRd s n c n' → ¬ CaRd c l) := fun c n' l h _ => hno _ _ h
  clear hno
  go_wp2_with fail
  exact ⟨rfl,.inr ⟨HN.out,rfl⟩,C1.out⟩
 have HP := Hid.mk hP
 have P1 := Hid.mk hp
 have HCS : Hid (c.size ≤ 1048576) := by obtain ⟨_,_,h2,h3,_⟩ := hP; have := HS.out; unfold Hid; omega
 clear hP hp
 go_wp2_with fail
 refine hK.out _ _ (fun _ _ => ⟨E1.out.c3.cell 0 _ rfl,E1.out.c5.cell 0 _ rfl⟩) ?_
 clear hK K
 try simp only [Act.put,zQ1,zQ2,zQ3]
 refine uNe 3 (fun K hK => ?_)
 go_simp
 refine (readCacheV c X1 HCS.out (ST.out.on B1.out) a0 a1 a2 (ER.out.on B1.out)).mono ?_
 rintro e X2 ⟨hR,hb⟩
 have I2 := Hid.mk (I1.out.on hb)
 have E2 := Hid.mk (E1.out.on hb)
 have C2 := Hid.mk (C1.out.below hb (Nat.le_of_lt I1.out.box.lt) HR.out)
 have P2 := Hid.mk (P1.out.on hb)
 clear hb I1 E1 C1 P1 B1
 rcases hR with ⟨u,L',hC,rfl,hSO⟩ | ⟨hno,rfl⟩
 rotate_left
 ·have HN : Hid (∀ c n' l,PcRd s n c n' → ¬ CaRd c l) := fun c2 n2 l h hc => by
   obtain ⟨rfl,_⟩ := PcRd.onep s _ _ _ _ _ h HP.out
   exact hno _ hc
  clear hno
  go_wp2_with fail
  exact ⟨rfl,.inr ⟨HN.out,rfl⟩,C2.out⟩
 have HC := Hid.mk hC
 have HSO := hQz (hSO.mono HBS1.out)
 clear hC hSO
 obtain ⟨uA,um,uc,rfl⟩ := HSO.out.1.shape
 go_wp2_with fail
 refine hK.out _ _ (fun _ _ => ⟨E2.out.c3.cell 0 _ rfl,E2.out.c5.cell 0 _ rfl⟩) ?_
 clear hK K
 try simp only [Act.put,zQ1,zQ2,zQ3]
 refine pF 4 ?_
 refine pF 5 ?_
 refine pF 6 ?_
 have I3 := Hid.mk (I2.out.setC HSO.out)
 have E3 := Hid.mk (E2.out.put 5 (.slice uA um uc))
 have C3 := Hid.mk (C2.out.put HR.out 5 (.slice uA um uc))
 have P3 : Hid (Prt (X2.setCell ⟨gx,5,none⟩ (.slice uA um uc)) gr (lf s n')) := (other_heap X2 gx 5 _ gr (by have := HR.out; omega)).trans P2.out
 have bk := I2.out.box.cell 5 _ rfl
 have fk := I2.out.box.free 5
 refine uNe 7 (fun K hK => ?_)
 go_simp
 refine hK.out _ _ (fun _ _ => ⟨E3.out.c3.cell 0 _ rfl,E3.out.c5.cell 0 _ rfl⟩) ?_
 clear hK K bk fk I2 E2 C2 P2
 try simp only [Act.put,zQ1,zQ2,zQ3]
 refine until_done (by kernel_rfl) ?_ _
 go_wp2_with fail
 first | go_end0 | exact bodyPost_ret (results_none rfl _ _ _) rfl ⟨.inl ⟨c,n',_,L',HP.out,HC.out,rfl,P3.out,I3.out,E3.out⟩,C3.out⟩
 exact ⟨.inl ⟨c,n',_,L',HP.out,HC.out,rfl,P3.out,I3.out,E3.out⟩,C3.out⟩
def BuA (s : ByteArray) (n base gr gx b2 b3 b5 b6 b9 : Nat) (k h m f : Int) (vc vf vs : Value) (L : List (Ser × Value)) (fs : List ByteArray) (ses : List Ses) (w : World) (e : Ending) (w' : World) : Prop := ((∃ (z n1 n2 : Nat) (vb : Value) (bks : List Pnt),RdF s n 1 [(z : Int)] n1 ∧ z ≤ 12 ∧ RdL (BkRd s) n1 z bks n2 ∧ (bks = [] → vb = .slice none 0 0) ∧ e = .returned (.tuple #[]) ∧ Prt w' gr (lf s n2) ∧ IgS w' base gx k h m f vb vc vf vs bks L fs ses ∧ IgE w' gr gx b2 b3 b5 b6 b9) ∨ ((∀ z n1 : Nat,RdF s n 1 [(z : Int)] n1 → z ≤ 12 → ∀ l n2,¬ RdL (BkRd s) n1 z l n2) ∧ e = .panicked lackP)) ∧ CKeep gr gx w w'
set_option maxHeartbeats 4000000 in
theorem takeBuckets (s : ByteArray) (n base gr gx b2 b3 b5 b6 b9 : Nat) (k h m f : Int) (vc vf vs : Value) (L : List (Ser × Value)) (fs : List ByteArray) (ses : List Ses) (w : World) (hs : s.size ≤ 1048576) (hp : Prt w gr (lf s n)) (hi : IgS w base gx k h m f (.slice none 0 0) vc vf vs [] L fs ses) (he : IgE w gr gx b2 b3 b5 b6 b9) (hbs : base ≤ w.heap.size) :
  Calls Tryz.prog 130 #[.pointer (some ⟨b6,0,none⟩),.pointer (some ⟨b3,0,none⟩),.pointer (some ⟨b2,0,none⟩)] w fun e w' => BuA s n base gr gx b2 b3 b5 b6 b9 k h m f vc vf vs L fs ses w e w' := by
 have HS : Hid (s.size ≤ 1048576) := hs
 have HR : Hid (gr < gx) := he.o1
 have HXB := hQz (hi.lt)
 have HB2 : Hid (b2 ≠ gr) := by have := he.o1; have := he.o2; unfold Hid; omega
 have c6 := he.c6.cell 0 _ rfl
 have cM := takeMany b2 gr 12 s n w (he.c2.cell 0 _ rfl) hp hs
 have IW := Hid.mk hi
 have EW := Hid.mk he
 have HBS : Hid (base ≤ w.heap.size) := hbs
 clear hs hp hi he hbs
 go_enter Tryz.func130,Tryz.ntmps130
 go_wp2_with fail
 refine cM.mono ?_
 rintro e X0 ⟨hR,hk⟩
 have I0 := Hid.mk (IW.out.part HR.out hk)
 have E0 := Hid.mk (EW.out.part hk)
 have C0 := Hid.mk ((CKeep.refl gr gx w).part hk (Nat.le_of_lt IW.out.box.lt))
 have HBS0 := hQz (Nat.le_trans HBS.out hk.1.size)
 clear hk cM c6 IW EW HBS
 rcases hR with ⟨z,n1,hz,hzm,rfl,hp⟩ | ⟨hno,rfl⟩
 rotate_left
 ·have HN : Hid (∀ z n1 : Nat,RdF s n 1 [(z : Int)] n1 → z ≤ 12 → ∀ l n2,¬ RdL (BkRd s) n1 z l n2) := fun z n1 h h4 _ _ _ => hno _ _ h h4
  clear hno
  go_wp2_with fail
  exact ⟨rfl,.inr ⟨HN.out,rfl⟩,C0.out⟩
 have HZ := Hid.mk hz
 have HZM : Hid (z ≤ 12) := hzm
 have qz : (z : Int) ≤ 12 := by omega
 have P0 := Hid.mk hp
 clear hz hzm hp
 have HNO : Hid ((∀ l n2,¬ RdL (BkRd s) n1 z l n2) → ∀ z n1 : Nat,RdF s n 1 [(z : Int)] n1 → z ≤ 12 → ∀ l n2,¬ RdL (BkRd s) n1 z l n2) := by
  intro hn y k h1 _
  obtain ⟨e,rfl⟩ := h1.one HZ.out
  simp only [List.cons.injEq,and_true] at e
  obtain rfl : y = z := by omega
  exact hn
 go_wp2_with fail
 go_loopw [5] (fun vi wr => ∃ (j n2 : Nat) (vb : Value) (bks : List Pnt),j ≤ z ∧ vi = .int .i64 (j : Int) ∧ RdL (BkRd s) n1 j bks n2 ∧ (bks = [] → vb = .slice none 0 0) ∧ Prt wr gr (lf s n2) ∧ IgS wr base gx k h m f vb vc vf vs bks L fs ses ∧ IgE wr gr gx b2 b3 b5 b6 b9 ∧ CKeep gr gx w wr ∧ base ≤ wr.heap.size) (fun i _ => z - (intOf i).toNat)
 case atStart => exact ⟨0,n1,_,[],by omega,rfl,RdL.zero _ _,fun _ => rfl,P0.out,I0.out,E0.out,C0.out,HBS0.out⟩
 case round =>
  obtain ⟨j,n2,vb,bks,hj,rfl,hrl,hnil,hp,hi,he,hc,hbs⟩ := hrel
  obtain ⟨Ao,mo,co,rfl⟩ := hi.ob.shape
  have HRL := Hid.mk hrl
  have HNIL := Hid.mk hnil
  clear hnil
  have HJ : Hid (j ≤ z) := hj
  by_cases hlt : j < z
  rotate_left
  ·obtain rfl : j = z := by omega
   have q4 : ¬ (j : Int) < (j : Int) := by omega
   have P1 := Hid.mk hp
   have I1 := Hid.mk hi
   have E1 := Hid.mk he
   have C1 := Hid.mk hc
   clear hrl hp hi he hc hbs I0 E0 C0 P0 HBS0
   go_wp2_with fail
   first | go_end0 | exact bodyPost_ret (results_none rfl _ _ _) rfl ⟨.inl ⟨_,n1,n2,_,_,HZ.out,HZM.out,HRL.out,HNIL.out,rfl,P1.out,I1.out,E1.out⟩,C1.out⟩
   exact ⟨.inl ⟨_,n1,n2,_,_,HZ.out,HZM.out,HRL.out,HNIL.out,rfl,P1.out,I1.out,E1.out⟩,C1.out⟩
  have q4 : (j : Int) < (z : Int) := by omega
  have qj : (j : Int) ≤ 12 := by omega
  have HLT : Hid (j < z) := hlt
  have P1 : Hid (Prt wr.drew gr (lf s n2)) := hp
  have I1 := Hid.mk hi.drew
  have E1 : Hid (IgE wr.drew gr gx b2 b3 b5 b6 b9) := he.keep fun _ _ => rfl
  have C1 := Hid.mk (hc.trans (CKeep.drew gr gx wr))
  have HBS1 : Hid (base ≤ wr.drew.heap.size) := hbs
  have HLN : Hid ((ptR bks).length ≤ 2097152) := by unfold Hid ptR; rw [List.length_map,hrl.length]; have := HZM.out; omega
  clear hrl hp hi he hc hbs I0 E0 C0 P0 HBS0 hlt hj
  have S1 : Hid (wr.drew.cell? ⟨b3,0,none⟩ = some (.pointer (some ⟨gx,0,none⟩)) ∧ wr.drew.cell? ⟨b2,0,none⟩ = some (.pointer (some ⟨gr,0,none⟩)) ∧ wr.drew.cell? ⟨gx,3,none⟩ = some (.slice Ao mo co)) := ⟨E1.out.c3.cell 0 _ rfl,E1.out.c2.cell 0 _ rfl,I1.out.box.cell 3 _ rfl⟩
  go_wp2_with fail
  refine wp_region_until (fun w' => w'.cell? ⟨b3,0,none⟩ = some (.pointer (some ⟨gx,0,none⟩)) ∧ w'.cell? ⟨b2,0,none⟩ = some (.pointer (some ⟨gr,0,none⟩)) ∧ w'.cell? ⟨gx,3,none⟩ = some (.slice Ao mo co)) (fun i => i == 14) 15 (by rfl) (by kernel_rfl) ?_
  generalize wr.drew = X1 at *
  refine tF 0 S1.out ?_
  refine tF 1 S1.out ?_
  refine tF 2 S1.out ?_
  refine tF 3 S1.out ?_
  refine tF 4 S1.out ?_
  refine tF 5 S1.out ?_
  refine tF 7 S1.out ?_
  refine uNe 6 (fun K hK => ?_)
  go_simp
  refine (takeVarR gr s n2 X1 P1.out HS.out).mono ?_
  rintro e X2 ⟨hR,hk⟩
  have I2 := Hid.mk (I1.out.part HR.out hk)
  have E2 := Hid.mk (E1.out.part hk)
  have C2 := Hid.mk (C1.out.part hk (Nat.le_of_lt I1.out.box.lt))
  have HBS2 := hQz (Nat.le_trans HBS1.out hk.1.size)
  clear hk I1 E1 C1 P1 HBS1 S1
  rcases hR with ⟨zt,m1,hz,rfl,hp⟩ | ⟨hno,rfl⟩
  rotate_left
  ·have HN : Hid (∀ z n1 : Nat,RdF s n 1 [(z : Int)] n1 → z ≤ 12 → ∀ l n2,¬ RdL (BkRd s) n1 z l n2) := HNO.out (RdL.no (BkRd.onep s) HRL.out HLT.out (fun y m3 hy => by obtain ⟨l1,q1,z1,g1,g2,_⟩ := RdF.last hy; exact hno _ _ g1))
   clear hno
   go_wp2_with fail
   exact ⟨rfl,.inr ⟨HN.out,rfl⟩,C2.out⟩
  have Hzt := Hid.mk hz
  have P2 := Hid.mk hp
  clear hz hp
  go_wp2_with fail
  refine hK.out _ _ (fun _ _ => ⟨E2.out.c3.cell 0 _ rfl,E2.out.c2.cell 0 _ rfl,I2.out.box.cell 3 _ rfl⟩) ?_
  clear hK K
  try simp only [Act.put,zQ1,zQ2,zQ3]
  refine uNe 8 (fun K hK => ?_)
  go_simp
  refine (takeVarR gr s m1 X2 P2.out HS.out).mono ?_
  rintro e X3 ⟨hR,hk⟩
  have I3 := Hid.mk (I2.out.part HR.out hk)
  have E3 := Hid.mk (E2.out.part hk)
  have C3 := Hid.mk (C2.out.part hk (Nat.le_of_lt I2.out.box.lt))
  have HBS3 := hQz (Nat.le_trans HBS2.out hk.1.size)
  clear hk I2 E2 C2 P2 HBS2
  rcases hR with ⟨zv,m2,hz,rfl,hp⟩ | ⟨hno,rfl⟩
  rotate_left
  ·have HN : Hid (∀ z n1 : Nat,RdF s n 1 [(z : Int)] n1 → z ≤ 12 → ∀ l n2,¬ RdL (BkRd s) n1 z l n2) := HNO.out (RdL.no (BkRd.onep s) HRL.out HLT.out (fun y m3 hy => Hzt.out.noLast hno _ _ hy))
   clear hno
   go_wp2_with fail
   exact ⟨rfl,.inr ⟨HN.out,rfl⟩,C3.out⟩
  have Hzv := Hid.mk hz
  have P3 := Hid.mk hp
  clear hz hp
  go_wp2_with fail
  refine hK.out _ _ (fun _ _ => ⟨E3.out.c3.cell 0 _ rfl,E3.out.c2.cell 0 _ rfl,I3.out.box.cell 3 _ rfl⟩) ?_
  clear hK K
  try simp only [Act.put,zQ1,zQ2,zQ3]
  obtain ⟨nA,nm,nc,w5,r5,hO5,hb5,hk5,-⟩ := run_append_row (P := Tryz.prog) X3 32 32 58 (.agg #[.int .i64 0,.int .i64 0]) 2 16 Tryz.underlying32 Tryz.infoBk rfl (by omega) base (.slice Ao mo co) (ptR bks) I3.out.ob [.int .i64 (zt : Int),.int .i64 (zv : Int)] rfl (pt_cells _ _) HLN.out (by omega) HBS3.out
  have kb : Blk w5 gx #[.int .i64 k,.int .i64 h,.int .i64 m,.slice Ao mo co,.int .i64 f,vc,vf,vs] 38 := (hk5 _ I3.out.box.lt (I3.out.ob.below I3.out.lt)).trans I3.out.box
  have EV := Hid.mk (E3.out.app I3.out.ob (by decide) (by decide) (by decide) (by decide) hk5)
  have I6 := Hid.mk (I3.out.appB (y := ⟨(zt : Int),(zv : Int)⟩) (by rw [ptR_snoc']; exact hO5) hk5)
  have E6 := Hid.mk (EV.out.put 3 (.slice nA nm nc))
  have C6 := Hid.mk ((C3.out.app hb5 HR.out HXB.out).put HR.out 3 (.slice nA nm nc))
  have P6 : Hid (Prt (w5.setCell ⟨gx,3,none⟩ (.slice nA nm nc)) gr (lf s m2)) := (other_heap w5 gx 3 _ gr (by have := HR.out; omega)).trans ((hb5.block gr (by have := HR.out; have := HXB.out; omega)).trans P3.out)
  have HBS6 : Hid (base ≤ (w5.setCell ⟨gx,3,none⟩ (.slice nA nm nc)).heap.size) := by unfold Hid; rw [World.size_setCell]; exact Nat.le_trans HBS3.out hb5.size
  refine pF 9 ?_
  have SX : Hid (X3.cell? ⟨b3,0,none⟩ = some (.pointer (some ⟨gx,0,none⟩)) ∧ X3.cell? ⟨b2,0,none⟩ = some (.pointer (some ⟨gr,0,none⟩)) ∧ X3.cell? ⟨gx,3,none⟩ = some (.slice Ao mo co)) := ⟨E3.out.c3.cell 0 _ rfl,E3.out.c2.cell 0 _ rfl,I3.out.box.cell 3 _ rfl⟩
  refine uNe 10 (fun K hK => ?_)
  go_simp
  refine hK.out _ _ (fun _ h => ⟨cell_alloc_keep h.1 _,cell_alloc_keep h.2.1 _,cell_alloc_keep h.2.2 _⟩) ?_
  clear hK K
  try simp only [Act.put,zQ1,zQ2,zQ3]
  refine uNe 11 (fun K hK => ?_)
  refine step_append_run (by rfl) (.tmp 11) (.tmp 17) 32 (by rfl) _ _ _ _ (by rfl) (by rfl) r5 ?_
  refine hK.out _ _ (fun _ _ => ⟨EV.out.c3.cell 0 _ rfl,EV.out.c2.cell 0 _ rfl,kb.cell 3 _ rfl⟩) ?_
  clear hK K
  try simp only [Act.put,zQ1,zQ2,zQ3]
  refine pF 12 ?_
  refine pF 13 ?_
  have bk := kb.cell 3 _ rfl
  have fk := kb.free 3
  refine uNe 14 (fun K hK => ?_)
  go_simp
  refine hK.out _ _ (fun h => by cases h) ?_
  clear hK K bk fk kb
  try simp only [Act.put,zQ1,zQ2,zQ3]
  refine until_done (by kernel_rfl) ?_ _
  have HRL2 := Hid.mk (HRL.out.snoc (show BkRd s n2 ⟨(zt : Int),(zv : Int)⟩ _ from Hzt.out.join Hzv.out))
  clear hO5 hb5 hk5 r5 EV SX
  go_wp2_with fail
  go_roundw
  case rel => exact ⟨j + 1,_,_,_,by have := HLT.out; omega,by go_num,HRL2.out,(fun e => by simp at e),P6.out,I6.out,E6.out,C6.out,HBS6.out⟩
  case measure => have := HLT.out; simp [intOf]; omega
def FiA (s : ByteArray) (n base gr gx b2 b3 b5 b6 b9 : Nat) (k h m f : Int) (vb vc vs : Value) (bks : List Pnt) (L : List (Ser × Value)) (ses : List Ses) (w : World) (e : Ending) (w' : World) : Prop := ((∃ (z n1 n2 : Nat) (vf : Value) (fs : List ByteArray),RdF s n 1 [(z : Int)] n1 ∧ z ≤ 4 ∧ RdL (PcRd s) n1 z fs n2 ∧ (fs = [] → vf = .slice none 0 0) ∧ e = .returned (.tuple #[]) ∧ Prt w' gr (lf s n2) ∧ IgS w' base gx k h m f vb vc vf vs bks L fs ses ∧ IgE w' gr gx b2 b3 b5 b6 b9) ∨ ((∀ z n1 : Nat,RdF s n 1 [(z : Int)] n1 → z ≤ 4 → ∀ l n2,¬ RdL (PcRd s) n1 z l n2) ∧ e = .panicked lackP)) ∧ CKeep gr gx w w'
set_option maxHeartbeats 4000000 in
theorem takeFiles (s : ByteArray) (n base gr gx b2 b3 b5 b6 b9 : Nat) (k h m f : Int) (vb vc vs : Value) (bks : List Pnt) (L : List (Ser × Value)) (ses : List Ses) (w : World) (hs : s.size ≤ 1048576) (hp : Prt w gr (lf s n)) (hi : IgS w base gx k h m f vb vc (.slice none 0 0) vs bks L [] ses) (he : IgE w gr gx b2 b3 b5 b6 b9) (hbs : base ≤ w.heap.size) :
  Calls Tryz.prog 134 #[.pointer (some ⟨b6,0,none⟩),.pointer (some ⟨b3,0,none⟩),.pointer (some ⟨b5,0,none⟩)] w fun e w' => FiA s n base gr gx b2 b3 b5 b6 b9 k h m f vb vc vs bks L ses w e w' := by
 have HS : Hid (s.size ≤ 1048576) := hs
 have HR : Hid (gr < gx) := he.o1
 have HXB := hQz (hi.lt)
 have HB2 : Hid (b2 ≠ gr) := by have := he.o1; have := he.o2; unfold Hid; omega
 have c6 := he.c6.cell 0 _ rfl
 have cM := takeMany b2 gr 4 s n w (he.c2.cell 0 _ rfl) hp hs
 have IW := Hid.mk hi
 have EW := Hid.mk he
 have HBS : Hid (base ≤ w.heap.size) := hbs
 clear hs hp hi he hbs
 go_enter Tryz.func134,Tryz.ntmps134
 go_wp2_with fail
 refine cM.mono ?_
 rintro e X0 ⟨hR,hk⟩
 have I0 := Hid.mk (IW.out.part HR.out hk)
 have E0 := Hid.mk (EW.out.part hk)
 have C0 := Hid.mk ((CKeep.refl gr gx w).part hk (Nat.le_of_lt IW.out.box.lt))
 have HBS0 := hQz (Nat.le_trans HBS.out hk.1.size)
 clear hk cM c6 IW EW HBS
 rcases hR with ⟨z,n1,hz,hzm,rfl,hp⟩ | ⟨hno,rfl⟩
 rotate_left
 ·have HN : Hid (∀ z n1 : Nat,RdF s n 1 [(z : Int)] n1 → z ≤ 4 → ∀ l n2,¬ RdL (PcRd s) n1 z l n2) := fun z n1 h h4 _ _ _ => hno _ _ h h4
  clear hno
  go_wp2_with fail
  exact ⟨rfl,.inr ⟨HN.out,rfl⟩,C0.out⟩
 have HZ := Hid.mk hz
 have HZM : Hid (z ≤ 4) := hzm
 have qz : (z : Int) ≤ 4 := by omega
 have P0 := Hid.mk hp
 clear hz hzm hp
 have HNO : Hid ((∀ l n2,¬ RdL (PcRd s) n1 z l n2) → ∀ z n1 : Nat,RdF s n 1 [(z : Int)] n1 → z ≤ 4 → ∀ l n2,¬ RdL (PcRd s) n1 z l n2) := by
  intro hn y k h1 _
  obtain ⟨e,rfl⟩ := h1.one HZ.out
  simp only [List.cons.injEq,and_true] at e
  obtain rfl : y = z := by omega
  exact hn
 go_wp2_with fail
 go_loopw [5] (fun vi wr => ∃ (j n2 : Nat) (vf : Value) (fs : List ByteArray),j ≤ z ∧ vi = .int .i64 (j : Int) ∧ RdL (PcRd s) n1 j fs n2 ∧ (fs = [] → vf = .slice none 0 0) ∧ Prt wr gr (lf s n2) ∧ IgS wr base gx k h m f vb vc vf vs bks L fs ses ∧ IgE wr gr gx b2 b3 b5 b6 b9 ∧ CKeep gr gx w wr ∧ base ≤ wr.heap.size) (fun i _ => z - (intOf i).toNat)
 case atStart => exact ⟨0,n1,_,[],by omega,rfl,RdL.zero _ _,fun _ => rfl,P0.out,I0.out,E0.out,C0.out,HBS0.out⟩
 case round =>
  obtain ⟨j,n2,vf,fs,hj,rfl,hrl,hnil,hp,hi,he,hc,hbs⟩ := hrel
  obtain ⟨Ao,mo,co,rfl⟩ := hi.of.shape
  have HRL := Hid.mk hrl
  have HNIL := Hid.mk hnil
  clear hnil
  have HJ : Hid (j ≤ z) := hj
  by_cases hlt : j < z
  rotate_left
  ·obtain rfl : j = z := by omega
   have q4 : ¬ (j : Int) < (j : Int) := by omega
   have P1 := Hid.mk hp
   have I1 := Hid.mk hi
   have E1 := Hid.mk he
   have C1 := Hid.mk hc
   clear hrl hp hi he hc hbs I0 E0 C0 P0 HBS0
   go_wp2_with fail
   first | go_end0 | exact bodyPost_ret (results_none rfl _ _ _) rfl ⟨.inl ⟨_,n1,n2,_,_,HZ.out,HZM.out,HRL.out,HNIL.out,rfl,P1.out,I1.out,E1.out⟩,C1.out⟩
   exact ⟨.inl ⟨_,n1,n2,_,_,HZ.out,HZM.out,HRL.out,HNIL.out,rfl,P1.out,I1.out,E1.out⟩,C1.out⟩
  have q4 : (j : Int) < (z : Int) := by omega
  have qj : (j : Int) ≤ 4 := by omega
  have HLT : Hid (j < z) := hlt
  have P1 : Hid (Prt wr.drew gr (lf s n2)) := hp
  have I1 := Hid.mk hi.drew
  have E1 : Hid (IgE wr.drew gr gx b2 b3 b5 b6 b9) := he.keep fun _ _ => rfl
  have C1 := Hid.mk (hc.trans (CKeep.drew gr gx wr))
  have HBS1 : Hid (base ≤ wr.drew.heap.size) := hbs
  have HLN : Hid ((stR fs).length ≤ 2097152) := by unfold Hid stR; rw [List.length_map,hrl.length]; have := HZM.out; omega
  clear hrl hp hi he hc hbs I0 E0 C0 P0 HBS0 hlt hj
  have S1 : Hid (wr.drew.cell? ⟨b3,0,none⟩ = some (.pointer (some ⟨gx,0,none⟩)) ∧ wr.drew.cell? ⟨b5,0,none⟩ = some (.func (.func 124) #[] #[.pointer (some ⟨b2,0,none⟩)]) ∧ wr.drew.cell? ⟨gx,6,none⟩ = some (.slice Ao mo co)) := ⟨E1.out.c3.cell 0 _ rfl,E1.out.c5.cell 0 _ rfl,I1.out.box.cell 6 _ rfl⟩
  go_wp2_with fail
  refine wp_region_until (fun w' => w'.cell? ⟨b3,0,none⟩ = some (.pointer (some ⟨gx,0,none⟩)) ∧ w'.cell? ⟨b5,0,none⟩ = some (.func (.func 124) #[] #[.pointer (some ⟨b2,0,none⟩)]) ∧ w'.cell? ⟨gx,6,none⟩ = some (.slice Ao mo co)) (fun i => i == 13) 14 (by rfl) (by kernel_rfl) ?_
  generalize wr.drew = X1 at *
  refine tF 0 S1.out ?_
  refine tF 1 S1.out ?_
  refine tF 2 S1.out ?_
  refine tF 3 S1.out ?_
  refine tF 4 S1.out ?_
  refine tF 5 S1.out ?_
  refine tF 6 S1.out ?_
  refine uNe 7 (fun K hK => ?_)
  go_simp
  refine (takePiece b2 gr s n2 X1 (E1.out.c2.cell 0 _ rfl) E1.out.c2.lt HB2.out P1.out HS.out).mono ?_
  rintro e X2 ⟨hR,hk⟩
  have I2 := Hid.mk (I1.out.part HR.out hk)
  have E2 := Hid.mk (E1.out.part hk)
  have C2 := Hid.mk (C1.out.part hk (Nat.le_of_lt I1.out.box.lt))
  have HBS2 := hQz (Nat.le_trans HBS1.out hk.1.size)
  clear hk I1 E1 C1 P1 HBS1 S1
  rcases hR with ⟨tt,m1,hz,rfl,hp⟩ | ⟨hno,rfl⟩
  rotate_left
  ·have HN : Hid (∀ z n1 : Nat,RdF s n 1 [(z : Int)] n1 → z ≤ 4 → ∀ l n2,¬ RdL (PcRd s) n1 z l n2) := HNO.out (RdL.no (PcRd.onep s) HRL.out HLT.out hno)
   clear hno
   go_wp2_with fail
   exact ⟨rfl,.inr ⟨HN.out,rfl⟩,C2.out⟩
  have Htt := Hid.mk hz
  have P2 := Hid.mk hp
  have HTS : Hid (tt.size ≤ 1048576) := by obtain ⟨_,_,h2,h3,_⟩ := hz; have := HS.out; unfold Hid; omega
  clear hz hp
  go_wp2_with fail
  refine hK.out _ _ (fun _ _ => ⟨E2.out.c3.cell 0 _ rfl,E2.out.c5.cell 0 _ rfl,I2.out.box.cell 6 _ rfl⟩) ?_
  clear hK K
  try simp only [Act.put,zQ1,zQ2,zQ3]
  obtain ⟨nA,nm,nc,w5,r5,hO5,hb5,hk5,-⟩ := run_append_row (P := Tryz.prog) X2 24 24 9 (.string ⟨#[]⟩) 1 16 Tryz.underlying24 infoStr rfl (by omega) base (.slice Ao mo co) (stR fs) I2.out.of [.string tt] rfl (st_cell _) HLN.out (by omega) HBS2.out
  have kb : Blk w5 gx #[.int .i64 k,.int .i64 h,.int .i64 m,vb,.int .i64 f,vc,.slice Ao mo co,vs] 38 := (hk5 _ I2.out.box.lt (I2.out.of.below I2.out.lt)).trans I2.out.box
  have EV := Hid.mk (E2.out.app I2.out.of (by decide) (by decide) (by decide) (by decide) hk5)
  have I6 := Hid.mk (I2.out.appF (y := tt) (by rw [stR_append]; exact hO5) hk5)
  have E6 := Hid.mk (EV.out.put 6 (.slice nA nm nc))
  have C6 := Hid.mk ((C2.out.app hb5 HR.out HXB.out).put HR.out 6 (.slice nA nm nc))
  have P6 : Hid (Prt (w5.setCell ⟨gx,6,none⟩ (.slice nA nm nc)) gr (lf s m1)) := (other_heap w5 gx 6 _ gr (by have := HR.out; omega)).trans ((hb5.block gr (by have := HR.out; have := HXB.out; omega)).trans P2.out)
  have HBS6 : Hid (base ≤ (w5.setCell ⟨gx,6,none⟩ (.slice nA nm nc)).heap.size) := by unfold Hid; rw [World.size_setCell]; exact Nat.le_trans HBS2.out hb5.size
  have SX : Hid (X2.cell? ⟨b3,0,none⟩ = some (.pointer (some ⟨gx,0,none⟩)) ∧ X2.cell? ⟨b5,0,none⟩ = some (.func (.func 124) #[] #[.pointer (some ⟨b2,0,none⟩)]) ∧ X2.cell? ⟨gx,6,none⟩ = some (.slice Ao mo co)) := ⟨E2.out.c3.cell 0 _ rfl,E2.out.c5.cell 0 _ rfl,I2.out.box.cell 6 _ rfl⟩
  refine uNe 8 (fun K hK => ?_)
  go_simp
  refine hK.out _ _ (fun _ h => ⟨cell_alloc_keep h.1 _,cell_alloc_keep h.2.1 _,cell_alloc_keep h.2.2 _⟩) ?_
  clear hK K
  try simp only [Act.put,zQ1,zQ2,zQ3]
  refine uNe 9 (fun K hK => ?_)
  refine step_append_run (by rfl) (.tmp 12) (.tmp 15) 24 (by rfl) _ _ _ _ (by rfl) (by rfl) r5 ?_
  refine hK.out _ _ (fun _ _ => ⟨EV.out.c3.cell 0 _ rfl,EV.out.c5.cell 0 _ rfl,kb.cell 6 _ rfl⟩) ?_
  clear hK K
  try simp only [Act.put,zQ1,zQ2,zQ3]
  refine pF 10 ?_
  refine pF 11 ?_
  refine pF 12 ?_
  have bk := kb.cell 6 _ rfl
  have fk := kb.free 6
  refine uNe 13 (fun K hK => ?_)
  go_simp
  refine hK.out _ _ (fun h => by cases h) ?_
  clear hK K bk fk kb
  try simp only [Act.put,zQ1,zQ2,zQ3]
  refine until_done (by kernel_rfl) ?_ _
  have HRL2 := Hid.mk (HRL.out.snoc (show PcRd s n2 tt _ from Htt.out))
  clear hO5 hb5 hk5 r5 EV SX
  go_wp2_with fail
  go_roundw
  case rel => exact ⟨j + 1,_,_,_,by have := HLT.out; omega,by go_num,HRL2.out,(fun e => by simp at e),P6.out,I6.out,E6.out,C6.out,HBS6.out⟩
  case measure => have := HLT.out; simp [intOf]; omega
def SeA (s : ByteArray) (n base gr gx b2 b3 b5 b6 b9 : Nat) (k h m f : Int) (vb vc vf : Value) (bks : List Pnt) (L : List (Ser × Value)) (fs : List ByteArray) (w : World) (e : Ending) (w' : World) : Prop := ((∃ (z n1 n2 : Nat) (vs : Value) (ses : List Ses),RdF s n 1 [(z : Int)] n1 ∧ z ≤ 4 ∧ RdL (SeRd s) n1 z ses n2 ∧ (ses = [] → vs = .slice none 0 0) ∧ e = .returned (.tuple #[]) ∧ Prt w' gr (lf s n2) ∧ IgS w' base gx k h m f vb vc vf vs bks L fs ses ∧ IgE w' gr gx b2 b3 b5 b6 b9) ∨ ((∀ z n1 : Nat,RdF s n 1 [(z : Int)] n1 → z ≤ 4 → ∀ l n2,¬ RdL (SeRd s) n1 z l n2) ∧ e = .panicked lackP)) ∧ CKeep gr gx w w'
set_option maxHeartbeats 4000000 in
theorem takeSessions (s : ByteArray) (n base gr gx b2 b3 b5 b6 b9 : Nat) (k h m f : Int) (vb vc vf : Value) (bks : List Pnt) (L : List (Ser × Value)) (fs : List ByteArray) (w : World) (hs : s.size ≤ 1048576) (hp : Prt w gr (lf s n)) (hi : IgS w base gx k h m f vb vc vf (.slice none 0 0) bks L fs []) (he : IgE w gr gx b2 b3 b5 b6 b9) (hbs : base ≤ w.heap.size) :
  Calls Tryz.prog 135 #[.pointer (some ⟨b6,0,none⟩),.pointer (some ⟨b3,0,none⟩),.pointer (some ⟨b2,0,none⟩),.pointer (some ⟨b5,0,none⟩)] w fun e w' => SeA s n base gr gx b2 b3 b5 b6 b9 k h m f vb vc vf bks L fs w e w' := by
 have HS : Hid (s.size ≤ 1048576) := hs
 have HR : Hid (gr < gx) := he.o1
 have HXB := hQz (hi.lt)
 have HB2 : Hid (b2 ≠ gr) := by have := he.o1; have := he.o2; unfold Hid; omega
 have c6 := he.c6.cell 0 _ rfl
 have cM := takeMany b2 gr 4 s n w (he.c2.cell 0 _ rfl) hp hs
 have IW := Hid.mk hi
 have EW := Hid.mk he
 have HBS : Hid (base ≤ w.heap.size) := hbs
 clear hs hp hi he hbs
 go_enter Tryz.func135,Tryz.ntmps135
 go_wp2_with fail
 refine cM.mono ?_
 rintro e X0 ⟨hR,hk⟩
 have I0 := Hid.mk (IW.out.part HR.out hk)
 have E0 := Hid.mk (EW.out.part hk)
 have C0 := Hid.mk ((CKeep.refl gr gx w).part hk (Nat.le_of_lt IW.out.box.lt))
 have HBS0 := hQz (Nat.le_trans HBS.out hk.1.size)
 clear hk cM c6 IW EW HBS
 rcases hR with ⟨z,n1,hz,hzm,rfl,hp⟩ | ⟨hno,rfl⟩
 rotate_left
 ·have HN : Hid (∀ z n1 : Nat,RdF s n 1 [(z : Int)] n1 → z ≤ 4 → ∀ l n2,¬ RdL (SeRd s) n1 z l n2) := fun z n1 h h4 _ _ _ => hno _ _ h h4
  clear hno
  go_wp2_with fail
  exact ⟨rfl,.inr ⟨HN.out,rfl⟩,C0.out⟩
 have HZ := Hid.mk hz
 have HZM : Hid (z ≤ 4) := hzm
 have qz : (z : Int) ≤ 4 := by omega
 have P0 := Hid.mk hp
 clear hz hzm hp
 have HNO : Hid ((∀ l n2,¬ RdL (SeRd s) n1 z l n2) → ∀ z n1 : Nat,RdF s n 1 [(z : Int)] n1 → z ≤ 4 → ∀ l n2,¬ RdL (SeRd s) n1 z l n2) := by
  intro hn y k h1 _
  obtain ⟨e,rfl⟩ := h1.one HZ.out
  simp only [List.cons.injEq,and_true] at e
  obtain rfl : y = z := by omega
  exact hn
 go_wp2_with fail
 go_loopw [6] (fun vi wr => ∃ (j n2 : Nat) (vs : Value) (ses : List Ses),j ≤ z ∧ vi = .int .i64 (j : Int) ∧ RdL (SeRd s) n1 j ses n2 ∧ (ses = [] → vs = .slice none 0 0) ∧ Prt wr gr (lf s n2) ∧ IgS wr base gx k h m f vb vc vf vs bks L fs ses ∧ IgE wr gr gx b2 b3 b5 b6 b9 ∧ CKeep gr gx w wr ∧ base ≤ wr.heap.size) (fun i _ => z - (intOf i).toNat)
 case atStart => exact ⟨0,n1,_,[],by omega,rfl,RdL.zero _ _,fun _ => rfl,P0.out,I0.out,E0.out,C0.out,HBS0.out⟩
 case round =>
  obtain ⟨j,n2,vs,ses,hj,rfl,hrl,hnil,hp,hi,he,hc,hbs⟩ := hrel
  obtain ⟨Ao,mo,co,rfl⟩ := hi.os.shape
  have HRL := Hid.mk hrl
  have HNIL := Hid.mk hnil
  clear hnil
  have HJ : Hid (j ≤ z) := hj
  by_cases hlt : j < z
  rotate_left
  ·obtain rfl : j = z := by omega
   have q4 : ¬ (j : Int) < (j : Int) := by omega
   have P1 := Hid.mk hp
   have I1 := Hid.mk hi
   have E1 := Hid.mk he
   have C1 := Hid.mk hc
   clear hrl hp hi he hc hbs I0 E0 C0 P0 HBS0
   go_wp2_with fail
   first | go_end0 | exact bodyPost_ret (results_none rfl _ _ _) rfl ⟨.inl ⟨_,n1,n2,_,_,HZ.out,HZM.out,HRL.out,HNIL.out,rfl,P1.out,I1.out,E1.out⟩,C1.out⟩
   exact ⟨.inl ⟨_,n1,n2,_,_,HZ.out,HZM.out,HRL.out,HNIL.out,rfl,P1.out,I1.out,E1.out⟩,C1.out⟩
  have q4 : (j : Int) < (z : Int) := by omega
  have qj : (j : Int) ≤ 4 := by omega
  have HLT : Hid (j < z) := hlt
  have P1 : Hid (Prt wr.drew gr (lf s n2)) := hp
  have I1 := Hid.mk hi.drew
  have E1 : Hid (IgE wr.drew gr gx b2 b3 b5 b6 b9) := he.keep fun _ _ => rfl
  have C1 := Hid.mk (hc.trans (CKeep.drew gr gx wr))
  have HBS1 : Hid (base ≤ wr.drew.heap.size) := hbs
  have HLN : Hid ((sesR ses).length ≤ 2097152) := by unfold Hid sesR; rw [List.length_map,hrl.length]; have := HZM.out; omega
  clear hrl hp hi he hc hbs I0 E0 C0 P0 HBS0 hlt hj
  have S1 : Hid (wr.drew.cell? ⟨b3,0,none⟩ = some (.pointer (some ⟨gx,0,none⟩)) ∧ wr.drew.cell? ⟨b2,0,none⟩ = some (.pointer (some ⟨gr,0,none⟩)) ∧ wr.drew.cell? ⟨b5,0,none⟩ = some (.func (.func 124) #[] #[.pointer (some ⟨b2,0,none⟩)]) ∧ wr.drew.cell? ⟨gx,7,none⟩ = some (.slice Ao mo co)) := ⟨E1.out.c3.cell 0 _ rfl,E1.out.c2.cell 0 _ rfl,E1.out.c5.cell 0 _ rfl,I1.out.box.cell 7 _ rfl⟩
  go_wp2_with fail
  refine wp_region_until (fun w' => w'.cell? ⟨b3,0,none⟩ = some (.pointer (some ⟨gx,0,none⟩)) ∧ w'.cell? ⟨b2,0,none⟩ = some (.pointer (some ⟨gr,0,none⟩)) ∧ w'.cell? ⟨b5,0,none⟩ = some (.func (.func 124) #[] #[.pointer (some ⟨b2,0,none⟩)]) ∧ w'.cell? ⟨gx,7,none⟩ = some (.slice Ao mo co)) (fun i => i == 17) 18 (by rfl) (by kernel_rfl) ?_
  generalize wr.drew = X1 at *
  refine tF 0 S1.out ?_
  refine tF 1 S1.out ?_
  refine tF 2 S1.out ?_
  refine tF 3 S1.out ?_
  refine tF 4 S1.out ?_
  refine tF 5 S1.out ?_
  refine tF 7 S1.out ?_
  refine tF 9 S1.out ?_
  refine uNe 6 (fun K hK => ?_)
  go_simp
  refine (takeVarR gr s n2 X1 P1.out HS.out).mono ?_
  rintro e X2 ⟨hR,hk⟩
  have I2 := Hid.mk (I1.out.part HR.out hk)
  have E2 := Hid.mk (E1.out.part hk)
  have C2 := Hid.mk (C1.out.part hk (Nat.le_of_lt I1.out.box.lt))
  have HBS2 := hQz (Nat.le_trans HBS1.out hk.1.size)
  clear hk I1 E1 C1 P1 HBS1 S1
  rcases hR with ⟨zc,m1,hz,rfl,hp⟩ | ⟨hno,rfl⟩
  rotate_left
  ·have HN : Hid (∀ z n1 : Nat,RdF s n 1 [(z : Int)] n1 → z ≤ 4 → ∀ l n2,¬ RdL (SeRd s) n1 z l n2) := HNO.out (RdL.no (SeRd.onep s) HRL.out HLT.out (fun y m3 hy => by obtain ⟨b,t,h1,_⟩ := hy; obtain ⟨l1,q1,z1,g1,g2,_⟩ := RdF.last h1; exact hno _ _ g1))
   clear hno
   go_wp2_with fail
   exact ⟨rfl,.inr ⟨HN.out,rfl⟩,C2.out⟩
  have Hzc := Hid.mk hz
  have P2 := Hid.mk hp
  clear hz hp
  go_wp2_with fail
  refine hK.out _ _ (fun _ _ => ⟨E2.out.c3.cell 0 _ rfl,E2.out.c2.cell 0 _ rfl,E2.out.c5.cell 0 _ rfl,I2.out.box.cell 7 _ rfl⟩) ?_
  clear hK K
  try simp only [Act.put,zQ1,zQ2,zQ3]
  refine uNe 8 (fun K hK => ?_)
  go_simp
  refine (takeVarR gr s m1 X2 P2.out HS.out).mono ?_
  rintro e X3 ⟨hR,hk⟩
  have I3 := Hid.mk (I2.out.part HR.out hk)
  have E3 := Hid.mk (E2.out.part hk)
  have C3 := Hid.mk (C2.out.part hk (Nat.le_of_lt I2.out.box.lt))
  have HBS3 := hQz (Nat.le_trans HBS2.out hk.1.size)
  clear hk I2 E2 C2 P2 HBS2
  rcases hR with ⟨zs,m2,hz,rfl,hp⟩ | ⟨hno,rfl⟩
  rotate_left
  ·have HN : Hid (∀ z n1 : Nat,RdF s n 1 [(z : Int)] n1 → z ≤ 4 → ∀ l n2,¬ RdL (SeRd s) n1 z l n2) := HNO.out (RdL.no (SeRd.onep s) HRL.out HLT.out (fun y m3 hy => by obtain ⟨b,t,h1,_⟩ := hy; exact Hzc.out.noLast hno _ _ h1))
   clear hno
   go_wp2_with fail
   exact ⟨rfl,.inr ⟨HN.out,rfl⟩,C3.out⟩
  have Hzs := Hid.mk hz
  have P3 := Hid.mk hp
  clear hz hp
  go_wp2_with fail
  refine hK.out _ _ (fun _ _ => ⟨E3.out.c3.cell 0 _ rfl,E3.out.c2.cell 0 _ rfl,E3.out.c5.cell 0 _ rfl,I3.out.box.cell 7 _ rfl⟩) ?_
  clear hK K
  try simp only [Act.put,zQ1,zQ2,zQ3]
  refine uNe 10 (fun K hK => ?_)
  go_simp
  refine (takePiece b2 gr s m2 X3 (E3.out.c2.cell 0 _ rfl) E3.out.c2.lt HB2.out P3.out HS.out).mono ?_
  rintro e X4 ⟨hR,hk⟩
  have I4 := Hid.mk (I3.out.part HR.out hk)
  have E4 := Hid.mk (E3.out.part hk)
  have C4 := Hid.mk (C3.out.part hk (Nat.le_of_lt I3.out.box.lt))
  have HBS4 := hQz (Nat.le_trans HBS3.out hk.1.size)
  clear hk I3 E3 C3 P3 HBS3
  rcases hR with ⟨tt,m3,hz,rfl,hp⟩ | ⟨hno,rfl⟩
  rotate_left
  ·have HN : Hid (∀ z n1 : Nat,RdF s n 1 [(z : Int)] n1 → z ≤ 4 → ∀ l n2,¬ RdL (SeRd s) n1 z l n2) := HNO.out (RdL.no (SeRd.onep s) HRL.out HLT.out (fun y m4 hy => by obtain ⟨b,t,h1,h2,_⟩ := hy; obtain ⟨_,rfl⟩ := h1.one (Hzc.out.join Hzs.out); exact hno _ _ h2))
   clear hno
   go_wp2_with fail
   exact ⟨rfl,.inr ⟨HN.out,rfl⟩,C4.out⟩
  have Htt := Hid.mk hz
  have P4 := Hid.mk hp
  have HTS : Hid (tt.size ≤ 1048576) := by obtain ⟨_,_,h2,h3,_⟩ := hz; have := HS.out; unfold Hid; omega
  clear hz hp
  go_wp2_with fail
  refine hK.out _ _ (fun _ _ => ⟨E4.out.c3.cell 0 _ rfl,E4.out.c2.cell 0 _ rfl,E4.out.c5.cell 0 _ rfl,I4.out.box.cell 7 _ rfl⟩) ?_
  clear hK K
  try simp only [Act.put,zQ1,zQ2,zQ3]
  refine uNe 11 (fun K hK => ?_)
  go_simp
  refine (readToldV tt X4 HTS.out).mono ?_
  rintro e X5 ⟨hR,hb⟩
  have I5 := Hid.mk (I4.out.on hb)
  have E5 := Hid.mk (E4.out.on hb)
  have C5 := Hid.mk (C4.out.below hb (Nat.le_of_lt I4.out.box.lt) HR.out)
  have P5 := Hid.mk (P4.out.on hb)
  have HBS5 := hQz (Nat.le_trans HBS4.out hb.size)
  clear hb I4 E4 C4 P4 HBS4
  rcases hR with ⟨xa,hx,rfl⟩ | ⟨hno,rfl⟩
  rotate_left
  ·have HN : Hid (∀ z n1 : Nat,RdF s n 1 [(z : Int)] n1 → z ≤ 4 → ∀ l n2,¬ RdL (SeRd s) n1 z l n2) := HNO.out (RdL.no (SeRd.onep s) HRL.out HLT.out (fun y m4 hy => by obtain ⟨b,t,h1,h2,h3⟩ := hy; obtain ⟨_,rfl⟩ := h1.one (Hzc.out.join Hzs.out); obtain ⟨rfl,_⟩ := PcRd.onep s _ _ _ _ _ h2 Htt.out; exact hno _ h3))
   clear hno
   go_wp2_with fail
   exact ⟨rfl,.inr ⟨HN.out,rfl⟩,C5.out⟩
  have HXA := Hid.mk hx
  unfold vAns
  clear hx
  go_wp2_with fail
  refine hK.out _ _ (fun _ _ => ⟨E5.out.c3.cell 0 _ rfl,E5.out.c2.cell 0 _ rfl,E5.out.c5.cell 0 _ rfl,I5.out.box.cell 7 _ rfl⟩) ?_
  clear hK K
  try simp only [Act.put,zQ1,zQ2,zQ3]
  obtain ⟨nA,nm,nc,w5,r5,hO5,hb5,hk5,-⟩ := run_append_row (P := Tryz.prog) X5 36 36 53 (.agg #[.int .i64 0,.int .i64 0,.int .i64 0,.int .i64 0,.int .i64 0,.string ⟨#[]⟩]) 6 56 Tryz.underlying36 Tryz.infoSes rfl (by omega) base (.slice Ao mo co) (sesR ses) I5.out.os [.int .i64 (zc : Int),.int .i64 (zs : Int),.int .i64 xa.code,.int .i64 xa.index,.int .i64 xa.mark,.string xa.data] rfl (ses_cellsI _ _ _ _ _ _) HLN.out (by omega) HBS5.out
  have kb : Blk w5 gx #[.int .i64 k,.int .i64 h,.int .i64 m,vb,.int .i64 f,vc,vf,.slice Ao mo co] 38 := (hk5 _ I5.out.box.lt (I5.out.os.below I5.out.lt)).trans I5.out.box
  have EV := Hid.mk (E5.out.app I5.out.os (by decide) (by decide) (by decide) (by decide) hk5)
  have I6 := Hid.mk (I5.out.appS (y := ⟨(zc : Int),(zs : Int),xa.code,xa.index,xa.mark,xa.data⟩) (by rw [sesR_append]; exact hO5) hk5)
  have E6 := Hid.mk (EV.out.put 7 (.slice nA nm nc))
  have C6 := Hid.mk ((C5.out.app hb5 HR.out HXB.out).put HR.out 7 (.slice nA nm nc))
  have P6 : Hid (Prt (w5.setCell ⟨gx,7,none⟩ (.slice nA nm nc)) gr (lf s m3)) := (other_heap w5 gx 7 _ gr (by have := HR.out; omega)).trans ((hb5.block gr (by have := HR.out; have := HXB.out; omega)).trans P5.out)
  have HBS6 : Hid (base ≤ (w5.setCell ⟨gx,7,none⟩ (.slice nA nm nc)).heap.size) := by unfold Hid; rw [World.size_setCell]; exact Nat.le_trans HBS5.out hb5.size
  refine pF 12 ?_
  have SX : Hid (X5.cell? ⟨b3,0,none⟩ = some (.pointer (some ⟨gx,0,none⟩)) ∧ X5.cell? ⟨b2,0,none⟩ = some (.pointer (some ⟨gr,0,none⟩)) ∧ X5.cell? ⟨b5,0,none⟩ = some (.func (.func 124) #[] #[.pointer (some ⟨b2,0,none⟩)]) ∧ X5.cell? ⟨gx,7,none⟩ = some (.slice Ao mo co)) := ⟨E5.out.c3.cell 0 _ rfl,E5.out.c2.cell 0 _ rfl,E5.out.c5.cell 0 _ rfl,I5.out.box.cell 7 _ rfl⟩
  refine uNe 13 (fun K hK => ?_)
  go_simp
  refine hK.out _ _ (fun _ h => ⟨cell_alloc_keep h.1 _,cell_alloc_keep h.2.1 _,cell_alloc_keep h.2.2.1 _,cell_alloc_keep h.2.2.2 _⟩) ?_
  clear hK K
  try simp only [Act.put,zQ1,zQ2,zQ3]
  refine uNe 14 (fun K hK => ?_)
  refine step_append_run (by rfl) (.tmp 12) (.tmp 21) 36 (by rfl) _ _ _ _ (by rfl) (by rfl) r5 ?_
  refine hK.out _ _ (fun _ _ => ⟨EV.out.c3.cell 0 _ rfl,EV.out.c2.cell 0 _ rfl,EV.out.c5.cell 0 _ rfl,kb.cell 7 _ rfl⟩) ?_
  clear hK K
  try simp only [Act.put,zQ1,zQ2,zQ3]
  refine pF 15 ?_
  refine pF 16 ?_
  have bk := kb.cell 7 _ rfl
  have fk := kb.free 7
  refine uNe 17 (fun K hK => ?_)
  go_simp
  refine hK.out _ _ (fun h => by cases h) ?_
  clear hK K bk fk kb
  try simp only [Act.put,zQ1,zQ2,zQ3]
  refine until_done (by kernel_rfl) ?_ _
  have HRL2 := Hid.mk (HRL.out.snoc (show SeRd s n2 ⟨(zc : Int),(zs : Int),xa.code,xa.index,xa.mark,xa.data⟩ _ from ⟨m2,tt,Hzc.out.join Hzs.out,Htt.out,HXA.out⟩))
  clear hO5 hb5 hk5 r5 EV SX
  go_wp2_with fail
  go_roundw
  case rel => exact ⟨j + 1,_,_,_,by have := HLT.out; omega,by go_num,HRL2.out,(fun e => by simp at e),P6.out,I6.out,E6.out,C6.out,HBS6.out⟩
  case measure => have := HLT.out; simp [intOf]; omega
theorem key_fine (b : Bool) (j : Int) (w : World) : (Instr.checkKey b 10000 3 (.int .i64 j)).run Tryz.prog w = .ok () w := by kernel_rfl
theorem push_set {α : Type} (a : Array α) (x y : α) : (a.push x).setIfInBounds a.size y = a.push y := by
 apply Array.ext
 ·simp
 ·intro i h1 h2
  rw [Array.getElem_setIfInBounds (by simpa using h2)]
  by_cases e : a.size = i
  ·subst e
   simp
  ·rw [if_neg e]
   have hi : i < a.size := by simp at h2; omega
   rw [Array.getElem_push_lt hi,Array.getElem_push_lt hi]
theorem ins_new (V : World) (es : Array MapEntry) (c : Nat) (j : Int) (v : Value) (hf : Instr.findNow (.int .i64) (.int .i64 j) es.toList 0 = some none) : (Instr.mapUpdate 142 (.map (some V.heap.size)) (.int .i64 j) v).run Tryz.prog (V.alloc (.map es c)) = .ok () (V.alloc (.map (es.push ⟨.int .i64 j,v,c⟩) (c + 1))) := by
 have h : (V.alloc (.map es c)).heap[V.heap.size]? = some (.map es c) := heap_alloc_new V _
 simp [Instr.mapUpdate,run_underlying Tryz.underlying142,MapKept.run_getObj_map h,key_fine,MapKept.run_findKey Tryz.underlying3 hf,MapKept.run_setObj_map _ h,Result.andThen]
 unfold World.alloc
 simp [push_set]
set_option maxHeartbeats 4000000 in
theorem takers (gr gx : Nat) (w : World) (hr : gr < gx) (hl : gx < w.heap.size) :
  Calls Tryz.prog 91 #[.pointer (some ⟨gr,0,none⟩),.pointer (some ⟨gx,0,none⟩)] w fun e w' => ∃ b2 b3 b5 b6 b9,e = .returned (.map (some b9)) ∧ IgE w' gr gx b2 b3 b5 b6 b9 ∧ Below w.heap.size w w' := by
 have hmf : ∀ (fn : Fn) (first cap : Array Value) (w : World),(Instr.makeFunc fn first cap).run Tryz.prog w = .ok (.func fn first cap) w := fun _ _ _ _ => rfl
 have hsf : ∀ (a : Addr) (fn : Fn) (x y : Array Value) m (w : World),(store a (.func fn x y) m).run Tryz.prog w = stored Tryz.prog w a (.func fn x y) m := fun a fn x y m w => run_store _ _ _ _ _ rfl
 have HR : Hid (gr < gx) := hr
 have HL : Hid (gx < w.heap.size) := hl
 have D2 : Hid (Below w.heap.size w ((w.alloc (.cells #[.pointer (some ⟨gr,0,none⟩)] 85)).alloc (.cells #[.pointer (some ⟨gx,0,none⟩)] 144))) := ((Below.refl _ w).alloc (Nat.le_refl _) _).alloc (by rw [World.size_alloc]; omega) _
 have k2 := Hid.mk ((Blk.new w #[.pointer (some ⟨gr,0,none⟩)] 85).alloc (.cells #[.pointer (some ⟨gx,0,none⟩)] 144))
 have k3 : Hid (Blk ((w.alloc (.cells #[.pointer (some ⟨gr,0,none⟩)] 85)).alloc (.cells #[.pointer (some ⟨gx,0,none⟩)] 144)) (w.heap.size + 1) #[.pointer (some ⟨gx,0,none⟩)] 144) := by
  have h := Blk.new (w.alloc (.cells #[.pointer (some ⟨gr,0,none⟩)] 85)) #[.pointer (some ⟨gx,0,none⟩)] 144
  rw [World.size_alloc] at h
  exact h
 have z2 : Hid (((w.alloc (.cells #[.pointer (some ⟨gr,0,none⟩)] 85)).alloc (.cells #[.pointer (some ⟨gx,0,none⟩)] 144)).heap.size = w.heap.size + 2) := by unfold Hid; rw [World.size_alloc,World.size_alloc]
 clear hr hl
 go_enter Tryz.func91,Tryz.ntmps91
 go_upto_region 1 with fail
 generalize (w.alloc (.cells #[.pointer (some ⟨gr,0,none⟩)] 85)).alloc (.cells #[.pointer (some ⟨gx,0,none⟩)] 144) = V2 at *
 have al := (Below.refl V2.heap.size V2).alloc (Nat.le_refl _) (.cells #[(.func (.func 124) #[] #[.pointer (some ⟨w.heap.size,0,none⟩)])] 81)
 have D3 := Hid.mk (D2.out.trans (al.mono D2.out.size))
 have j2 := Hid.mk (k2.out.on al k2.out.lt)
 have j3 := Hid.mk (k3.out.on al k3.out.lt)
 have j5 := Hid.mk (Blk.new V2 #[(.func (.func 124) #[] #[.pointer (some ⟨w.heap.size,0,none⟩)])] 81)
 have z3 : Hid ((V2.alloc (.cells #[(.func (.func 124) #[] #[.pointer (some ⟨w.heap.size,0,none⟩)])] 81)).heap.size = w.heap.size + 3) := by unfold Hid; rw [World.size_alloc,z2.out]
 clear al
 go_upto_region 2 with fail
 rw [z2.out] at j5 ⊢
 generalize V2.alloc (.cells #[(.func (.func 124) #[] #[.pointer (some ⟨w.heap.size,0,none⟩)])] 81) = V3 at *
 clear D2 k2 k3 z2
 have al := (Below.refl V3.heap.size V3).alloc (Nat.le_refl _) (.cells #[(.func (.func 127) #[] #[.pointer (some ⟨w.heap.size,0,none⟩)])] 59)
 have D4 := Hid.mk (D3.out.trans (al.mono D3.out.size))
 have l2 := Hid.mk (j2.out.on al j2.out.lt)
 have l3 := Hid.mk (j3.out.on al j3.out.lt)
 have l5 := Hid.mk (j5.out.on al j5.out.lt)
 have l6 := Hid.mk (Blk.new V3 #[(.func (.func 127) #[] #[.pointer (some ⟨w.heap.size,0,none⟩)])] 59)
 have z4 : Hid ((V3.alloc (.cells #[(.func (.func 127) #[] #[.pointer (some ⟨w.heap.size,0,none⟩)])] 59)).heap.size = w.heap.size + 4) := by unfold Hid; rw [World.size_alloc,z3.out]
 clear al
 go_upto_region 3 with fail
 rw [z3.out] at l6 ⊢
 generalize V3.alloc (.cells #[(.func (.func 127) #[] #[.pointer (some ⟨w.heap.size,0,none⟩)])] 59) = V4 at *
 clear D3 j2 j3 j5 z3
 obtain ⟨b2,h2⟩ : ∃ b2,b2 = w.heap.size := ⟨_,rfl⟩
 obtain ⟨b3,h3⟩ : ∃ b3,b3 = w.heap.size + 1 := ⟨_,rfl⟩
 obtain ⟨b5,h5⟩ : ∃ b5,b5 = w.heap.size + 2 := ⟨_,rfl⟩
 obtain ⟨b6,h6⟩ : ∃ b6,b6 = w.heap.size + 3 := ⟨_,rfl⟩
 have HB : Hid (gx < b2 ∧ gx < b3 ∧ gx < b5 ∧ gx < b6) := by have := HL.out; unfold Hid; omega
 have L4 : Hid (Blk V4 b2 #[.pointer (some ⟨gr,0,none⟩)] 85 ∧ Blk V4 b3 #[.pointer (some ⟨gx,0,none⟩)] 144 ∧ Blk V4 b5 #[(.func (.func 124) #[] #[.pointer (some ⟨b2,0,none⟩)])] 81 ∧ Blk V4 b6 #[(.func (.func 127) #[] #[.pointer (some ⟨b2,0,none⟩)])] 59) := by
  subst h2 h3 h5 h6
  exact ⟨l2.out,l3.out,l5.out,l6.out⟩
 have Z4 : Hid (gx < V4.heap.size) := by have := z4.out; have := HL.out; unfold Hid; omega
 rw [← h6,← h5,← h3,← h2]
 clear h2 h3 h5 h6 l2 l3 l5 l6 z4
 have i0 : (Instr.mapUpdate 142 (.map (some V4.heap.size)) (.int .i64 0) (.func (.func 128) #[] #[.pointer (some ⟨b2,0,none⟩),.pointer (some ⟨b3,0,none⟩)])).run Tryz.prog (V4.alloc (.map #[] 0)) = .ok () (V4.alloc (.map #[⟨.int .i64 0,(.func (.func 128) #[] #[.pointer (some ⟨b2,0,none⟩),.pointer (some ⟨b3,0,none⟩)]),0⟩] 1)) := ins_new V4 #[] 0 0 (.func (.func 128) #[] #[.pointer (some ⟨b2,0,none⟩),.pointer (some ⟨b3,0,none⟩)]) (by rfl)
 have i1 : (Instr.mapUpdate 142 (.map (some V4.heap.size)) (.int .i64 1) (.func (.func 130) #[] #[.pointer (some ⟨b6,0,none⟩),.pointer (some ⟨b3,0,none⟩),.pointer (some ⟨b2,0,none⟩)])).run Tryz.prog (V4.alloc (.map #[⟨.int .i64 0,(.func (.func 128) #[] #[.pointer (some ⟨b2,0,none⟩),.pointer (some ⟨b3,0,none⟩)]),0⟩] 1)) = .ok () (V4.alloc (.map #[⟨.int .i64 0,(.func (.func 128) #[] #[.pointer (some ⟨b2,0,none⟩),.pointer (some ⟨b3,0,none⟩)]),0⟩,⟨.int .i64 1,(.func (.func 130) #[] #[.pointer (some ⟨b6,0,none⟩),.pointer (some ⟨b3,0,none⟩),.pointer (some ⟨b2,0,none⟩)]),1⟩] 2)) := ins_new V4 #[⟨.int .i64 0,(.func (.func 128) #[] #[.pointer (some ⟨b2,0,none⟩),.pointer (some ⟨b3,0,none⟩)]),0⟩] 1 1 (.func (.func 130) #[] #[.pointer (some ⟨b6,0,none⟩),.pointer (some ⟨b3,0,none⟩),.pointer (some ⟨b2,0,none⟩)]) (by rfl)
 have i2 : (Instr.mapUpdate 142 (.map (some V4.heap.size)) (.int .i64 2) (.func (.func 131) #[] #[.pointer (some ⟨b2,0,none⟩),.pointer (some ⟨b3,0,none⟩)])).run Tryz.prog (V4.alloc (.map #[⟨.int .i64 0,(.func (.func 128) #[] #[.pointer (some ⟨b2,0,none⟩),.pointer (some ⟨b3,0,none⟩)]),0⟩,⟨.int .i64 1,(.func (.func 130) #[] #[.pointer (some ⟨b6,0,none⟩),.pointer (some ⟨b3,0,none⟩),.pointer (some ⟨b2,0,none⟩)]),1⟩] 2)) = .ok () (V4.alloc (.map #[⟨.int .i64 0,(.func (.func 128) #[] #[.pointer (some ⟨b2,0,none⟩),.pointer (some ⟨b3,0,none⟩)]),0⟩,⟨.int .i64 1,(.func (.func 130) #[] #[.pointer (some ⟨b6,0,none⟩),.pointer (some ⟨b3,0,none⟩),.pointer (some ⟨b2,0,none⟩)]),1⟩,⟨.int .i64 2,(.func (.func 131) #[] #[.pointer (some ⟨b2,0,none⟩),.pointer (some ⟨b3,0,none⟩)]),2⟩] 3)) := ins_new V4 #[⟨.int .i64 0,(.func (.func 128) #[] #[.pointer (some ⟨b2,0,none⟩),.pointer (some ⟨b3,0,none⟩)]),0⟩,⟨.int .i64 1,(.func (.func 130) #[] #[.pointer (some ⟨b6,0,none⟩),.pointer (some ⟨b3,0,none⟩),.pointer (some ⟨b2,0,none⟩)]),1⟩] 2 2 (.func (.func 131) #[] #[.pointer (some ⟨b2,0,none⟩),.pointer (some ⟨b3,0,none⟩)]) (by rfl)
 have i3 : (Instr.mapUpdate 142 (.map (some V4.heap.size)) (.int .i64 3) (.func (.func 132) #[] #[.pointer (some ⟨b5,0,none⟩),.pointer (some ⟨b3,0,none⟩)])).run Tryz.prog (V4.alloc (.map #[⟨.int .i64 0,(.func (.func 128) #[] #[.pointer (some ⟨b2,0,none⟩),.pointer (some ⟨b3,0,none⟩)]),0⟩,⟨.int .i64 1,(.func (.func 130) #[] #[.pointer (some ⟨b6,0,none⟩),.pointer (some ⟨b3,0,none⟩),.pointer (some ⟨b2,0,none⟩)]),1⟩,⟨.int .i64 2,(.func (.func 131) #[] #[.pointer (some ⟨b2,0,none⟩),.pointer (some ⟨b3,0,none⟩)]),2⟩] 3)) = .ok () (V4.alloc (.map #[⟨.int .i64 0,(.func (.func 128) #[] #[.pointer (some ⟨b2,0,none⟩),.pointer (some ⟨b3,0,none⟩)]),0⟩,⟨.int .i64 1,(.func (.func 130) #[] #[.pointer (some ⟨b6,0,none⟩),.pointer (some ⟨b3,0,none⟩),.pointer (some ⟨b2,0,none⟩)]),1⟩,⟨.int .i64 2,(.func (.func 131) #[] #[.pointer (some ⟨b2,0,none⟩),.pointer (some ⟨b3,0,none⟩)]),2⟩,⟨.int .i64 3,(.func (.func 132) #[] #[.pointer (some ⟨b5,0,none⟩),.pointer (some ⟨b3,0,none⟩)]),3⟩] 4)) := ins_new V4 #[⟨.int .i64 0,(.func (.func 128) #[] #[.pointer (some ⟨b2,0,none⟩),.pointer (some ⟨b3,0,none⟩)]),0⟩,⟨.int .i64 1,(.func (.func 130) #[] #[.pointer (some ⟨b6,0,none⟩),.pointer (some ⟨b3,0,none⟩),.pointer (some ⟨b2,0,none⟩)]),1⟩,⟨.int .i64 2,(.func (.func 131) #[] #[.pointer (some ⟨b2,0,none⟩),.pointer (some ⟨b3,0,none⟩)]),2⟩] 3 3 (.func (.func 132) #[] #[.pointer (some ⟨b5,0,none⟩),.pointer (some ⟨b3,0,none⟩)]) (by rfl)
 have i4 : (Instr.mapUpdate 142 (.map (some V4.heap.size)) (.int .i64 4) (.func (.func 134) #[] #[.pointer (some ⟨b6,0,none⟩),.pointer (some ⟨b3,0,none⟩),.pointer (some ⟨b5,0,none⟩)])).run Tryz.prog (V4.alloc (.map #[⟨.int .i64 0,(.func (.func 128) #[] #[.pointer (some ⟨b2,0,none⟩),.pointer (some ⟨b3,0,none⟩)]),0⟩,⟨.int .i64 1,(.func (.func 130) #[] #[.pointer (some ⟨b6,0,none⟩),.pointer (some ⟨b3,0,none⟩),.pointer (some ⟨b2,0,none⟩)]),1⟩,⟨.int .i64 2,(.func (.func 131) #[] #[.pointer (some ⟨b2,0,none⟩),.pointer (some ⟨b3,0,none⟩)]),2⟩,⟨.int .i64 3,(.func (.func 132) #[] #[.pointer (some ⟨b5,0,none⟩),.pointer (some ⟨b3,0,none⟩)]),3⟩] 4)) = .ok () (V4.alloc (.map #[⟨.int .i64 0,(.func (.func 128) #[] #[.pointer (some ⟨b2,0,none⟩),.pointer (some ⟨b3,0,none⟩)]),0⟩,⟨.int .i64 1,(.func (.func 130) #[] #[.pointer (some ⟨b6,0,none⟩),.pointer (some ⟨b3,0,none⟩),.pointer (some ⟨b2,0,none⟩)]),1⟩,⟨.int .i64 2,(.func (.func 131) #[] #[.pointer (some ⟨b2,0,none⟩),.pointer (some ⟨b3,0,none⟩)]),2⟩,⟨.int .i64 3,(.func (.func 132) #[] #[.pointer (some ⟨b5,0,none⟩),.pointer (some ⟨b3,0,none⟩)]),3⟩,⟨.int .i64 4,(.func (.func 134) #[] #[.pointer (some ⟨b6,0,none⟩),.pointer (some ⟨b3,0,none⟩),.pointer (some ⟨b5,0,none⟩)]),4⟩] 5)) := ins_new V4 #[⟨.int .i64 0,(.func (.func 128) #[] #[.pointer (some ⟨b2,0,none⟩),.pointer (some ⟨b3,0,none⟩)]),0⟩,⟨.int .i64 1,(.func (.func 130) #[] #[.pointer (some ⟨b6,0,none⟩),.pointer (some ⟨b3,0,none⟩),.pointer (some ⟨b2,0,none⟩)]),1⟩,⟨.int .i64 2,(.func (.func 131) #[] #[.pointer (some ⟨b2,0,none⟩),.pointer (some ⟨b3,0,none⟩)]),2⟩,⟨.int .i64 3,(.func (.func 132) #[] #[.pointer (some ⟨b5,0,none⟩),.pointer (some ⟨b3,0,none⟩)]),3⟩] 4 4 (.func (.func 134) #[] #[.pointer (some ⟨b6,0,none⟩),.pointer (some ⟨b3,0,none⟩),.pointer (some ⟨b5,0,none⟩)]) (by rfl)
 have i5 : (Instr.mapUpdate 142 (.map (some V4.heap.size)) (.int .i64 5) (.func (.func 135) #[] #[.pointer (some ⟨b6,0,none⟩),.pointer (some ⟨b3,0,none⟩),.pointer (some ⟨b2,0,none⟩),.pointer (some ⟨b5,0,none⟩)])).run Tryz.prog (V4.alloc (.map #[⟨.int .i64 0,(.func (.func 128) #[] #[.pointer (some ⟨b2,0,none⟩),.pointer (some ⟨b3,0,none⟩)]),0⟩,⟨.int .i64 1,(.func (.func 130) #[] #[.pointer (some ⟨b6,0,none⟩),.pointer (some ⟨b3,0,none⟩),.pointer (some ⟨b2,0,none⟩)]),1⟩,⟨.int .i64 2,(.func (.func 131) #[] #[.pointer (some ⟨b2,0,none⟩),.pointer (some ⟨b3,0,none⟩)]),2⟩,⟨.int .i64 3,(.func (.func 132) #[] #[.pointer (some ⟨b5,0,none⟩),.pointer (some ⟨b3,0,none⟩)]),3⟩,⟨.int .i64 4,(.func (.func 134) #[] #[.pointer (some ⟨b6,0,none⟩),.pointer (some ⟨b3,0,none⟩),.pointer (some ⟨b5,0,none⟩)]),4⟩] 5)) = .ok () (V4.alloc (.map #[⟨.int .i64 0,(.func (.func 128) #[] #[.pointer (some ⟨b2,0,none⟩),.pointer (some ⟨b3,0,none⟩)]),0⟩,⟨.int .i64 1,(.func (.func 130) #[] #[.pointer (some ⟨b6,0,none⟩),.pointer (some ⟨b3,0,none⟩),.pointer (some ⟨b2,0,none⟩)]),1⟩,⟨.int .i64 2,(.func (.func 131) #[] #[.pointer (some ⟨b2,0,none⟩),.pointer (some ⟨b3,0,none⟩)]),2⟩,⟨.int .i64 3,(.func (.func 132) #[] #[.pointer (some ⟨b5,0,none⟩),.pointer (some ⟨b3,0,none⟩)]),3⟩,⟨.int .i64 4,(.func (.func 134) #[] #[.pointer (some ⟨b6,0,none⟩),.pointer (some ⟨b3,0,none⟩),.pointer (some ⟨b5,0,none⟩)]),4⟩,⟨.int .i64 5,(.func (.func 135) #[] #[.pointer (some ⟨b6,0,none⟩),.pointer (some ⟨b3,0,none⟩),.pointer (some ⟨b2,0,none⟩),.pointer (some ⟨b5,0,none⟩)]),5⟩] 6)) := ins_new V4 #[⟨.int .i64 0,(.func (.func 128) #[] #[.pointer (some ⟨b2,0,none⟩),.pointer (some ⟨b3,0,none⟩)]),0⟩,⟨.int .i64 1,(.func (.func 130) #[] #[.pointer (some ⟨b6,0,none⟩),.pointer (some ⟨b3,0,none⟩),.pointer (some ⟨b2,0,none⟩)]),1⟩,⟨.int .i64 2,(.func (.func 131) #[] #[.pointer (some ⟨b2,0,none⟩),.pointer (some ⟨b3,0,none⟩)]),2⟩,⟨.int .i64 3,(.func (.func 132) #[] #[.pointer (some ⟨b5,0,none⟩),.pointer (some ⟨b3,0,none⟩)]),3⟩,⟨.int .i64 4,(.func (.func 134) #[] #[.pointer (some ⟨b6,0,none⟩),.pointer (some ⟨b3,0,none⟩),.pointer (some ⟨b5,0,none⟩)]),4⟩] 5 5 (.func (.func 135) #[] #[.pointer (some ⟨b6,0,none⟩),.pointer (some ⟨b3,0,none⟩),.pointer (some ⟨b2,0,none⟩),.pointer (some ⟨b5,0,none⟩)]) (by rfl)
 have al := (Below.refl V4.heap.size V4).alloc (Nat.le_refl _) (.map #[⟨.int .i64 0,(.func (.func 128) #[] #[.pointer (some ⟨b2,0,none⟩),.pointer (some ⟨b3,0,none⟩)]),0⟩,⟨.int .i64 1,(.func (.func 130) #[] #[.pointer (some ⟨b6,0,none⟩),.pointer (some ⟨b3,0,none⟩),.pointer (some ⟨b2,0,none⟩)]),1⟩,⟨.int .i64 2,(.func (.func 131) #[] #[.pointer (some ⟨b2,0,none⟩),.pointer (some ⟨b3,0,none⟩)]),2⟩,⟨.int .i64 3,(.func (.func 132) #[] #[.pointer (some ⟨b5,0,none⟩),.pointer (some ⟨b3,0,none⟩)]),3⟩,⟨.int .i64 4,(.func (.func 134) #[] #[.pointer (some ⟨b6,0,none⟩),.pointer (some ⟨b3,0,none⟩),.pointer (some ⟨b5,0,none⟩)]),4⟩,⟨.int .i64 5,(.func (.func 135) #[] #[.pointer (some ⟨b6,0,none⟩),.pointer (some ⟨b3,0,none⟩),.pointer (some ⟨b2,0,none⟩),.pointer (some ⟨b5,0,none⟩)]),5⟩] 6)
 have D5 := Hid.mk (D4.out.trans (al.mono D4.out.size))
 have M5 : Hid ((V4.alloc (.map #[⟨.int .i64 0,(.func (.func 128) #[] #[.pointer (some ⟨b2,0,none⟩),.pointer (some ⟨b3,0,none⟩)]),0⟩,⟨.int .i64 1,(.func (.func 130) #[] #[.pointer (some ⟨b6,0,none⟩),.pointer (some ⟨b3,0,none⟩),.pointer (some ⟨b2,0,none⟩)]),1⟩,⟨.int .i64 2,(.func (.func 131) #[] #[.pointer (some ⟨b2,0,none⟩),.pointer (some ⟨b3,0,none⟩)]),2⟩,⟨.int .i64 3,(.func (.func 132) #[] #[.pointer (some ⟨b5,0,none⟩),.pointer (some ⟨b3,0,none⟩)]),3⟩,⟨.int .i64 4,(.func (.func 134) #[] #[.pointer (some ⟨b6,0,none⟩),.pointer (some ⟨b3,0,none⟩),.pointer (some ⟨b5,0,none⟩)]),4⟩,⟨.int .i64 5,(.func (.func 135) #[] #[.pointer (some ⟨b6,0,none⟩),.pointer (some ⟨b3,0,none⟩),.pointer (some ⟨b2,0,none⟩),.pointer (some ⟨b5,0,none⟩)]),5⟩] 6)).heap[V4.heap.size]? = some (.map (byKind b2 b3 b5 b6) 6)) := heap_alloc_new V4 _
 have E5 : Hid (IgE (V4.alloc (.map #[⟨.int .i64 0,(.func (.func 128) #[] #[.pointer (some ⟨b2,0,none⟩),.pointer (some ⟨b3,0,none⟩)]),0⟩,⟨.int .i64 1,(.func (.func 130) #[] #[.pointer (some ⟨b6,0,none⟩),.pointer (some ⟨b3,0,none⟩),.pointer (some ⟨b2,0,none⟩)]),1⟩,⟨.int .i64 2,(.func (.func 131) #[] #[.pointer (some ⟨b2,0,none⟩),.pointer (some ⟨b3,0,none⟩)]),2⟩,⟨.int .i64 3,(.func (.func 132) #[] #[.pointer (some ⟨b5,0,none⟩),.pointer (some ⟨b3,0,none⟩)]),3⟩,⟨.int .i64 4,(.func (.func 134) #[] #[.pointer (some ⟨b6,0,none⟩),.pointer (some ⟨b3,0,none⟩),.pointer (some ⟨b5,0,none⟩)]),4⟩,⟨.int .i64 5,(.func (.func 135) #[] #[.pointer (some ⟨b6,0,none⟩),.pointer (some ⟨b3,0,none⟩),.pointer (some ⟨b2,0,none⟩),.pointer (some ⟨b5,0,none⟩)]),5⟩] 6)) gr gx b2 b3 b5 b6 V4.heap.size) := ⟨L4.out.1.on al L4.out.1.lt,L4.out.2.1.on al L4.out.2.1.lt,L4.out.2.2.1.on al L4.out.2.2.1.lt,L4.out.2.2.2.on al L4.out.2.2.2.lt,HR.out,HB.out.1,HB.out.2.1,HB.out.2.2.1,HB.out.2.2.2,M5.out,Z4.out⟩
 clear al D4 L4
 have hmk : (Instr.makeMap 142 none).run Tryz.prog V4 = .ok (.map (some V4.heap.size)) (V4.alloc (.map #[] 0)) := by first | rfl | kernel_rfl
 go_wp2_with fail
 go_ret
 exact ⟨b2,b3,b5,b6,V4.heap.size,rfl,E5.out,D5.out⟩
theorem resC8 {w : World} {g : Nat} {a0 a1 a2 a3 a4 a5 a6 a7 x0 x1 x2 x3 x4 x5 x6 x7 : Value} {t : TypeId} (h : Blk w g #[a0,a1,a2,a3,a4,a5,a6,a7] t) :
  (w.cell? ⟨g,0,none⟩ = some a0 ∧ w.frozen? ⟨g,0,none⟩ = false) ∧ ((w.setCell ⟨g,0,none⟩ x0).cell? ⟨g,1,none⟩ = some a1 ∧ (w.setCell ⟨g,0,none⟩ x0).frozen? ⟨g,1,none⟩ = false) ∧ (((w.setCell ⟨g,0,none⟩ x0).setCell ⟨g,1,none⟩ x1).cell? ⟨g,2,none⟩ = some a2 ∧ ((w.setCell ⟨g,0,none⟩ x0).setCell ⟨g,1,none⟩ x1).frozen? ⟨g,2,none⟩ = false) ∧ ((((w.setCell ⟨g,0,none⟩ x0).setCell ⟨g,1,none⟩ x1).setCell ⟨g,2,none⟩ x2).cell? ⟨g,3,none⟩ = some a3 ∧ (((w.setCell ⟨g,0,none⟩ x0).setCell ⟨g,1,none⟩ x1).setCell ⟨g,2,none⟩ x2).frozen? ⟨g,3,none⟩ = false) ∧ (((((w.setCell ⟨g,0,none⟩ x0).setCell ⟨g,1,none⟩ x1).setCell ⟨g,2,none⟩ x2).setCell ⟨g,3,none⟩ x3).cell? ⟨g,4,none⟩ = some a4 ∧ ((((w.setCell ⟨g,0,none⟩ x0).setCell ⟨g,1,none⟩ x1).setCell ⟨g,2,none⟩ x2).setCell ⟨g,3,none⟩ x3).frozen? ⟨g,4,none⟩ = false) ∧ ((((((w.setCell ⟨g,0,none⟩ x0).setCell ⟨g,1,none⟩ x1).setCell ⟨g,2,none⟩ x2).setCell ⟨g,3,none⟩ x3).setCell ⟨g,4,none⟩ x4).cell? ⟨g,5,none⟩ = some a5 ∧ (((((w.setCell ⟨g,0,none⟩ x0).setCell ⟨g,1,none⟩ x1).setCell ⟨g,2,none⟩ x2).setCell ⟨g,3,none⟩ x3).setCell ⟨g,4,none⟩ x4).frozen? ⟨g,5,none⟩ = false) ∧ (((((((w.setCell ⟨g,0,none⟩ x0).setCell ⟨g,1,none⟩ x1).setCell ⟨g,2,none⟩ x2).setCell ⟨g,3,none⟩ x3).setCell ⟨g,4,none⟩ x4).setCell ⟨g,5,none⟩ x5).cell? ⟨g,6,none⟩ = some a6 ∧ ((((((w.setCell ⟨g,0,none⟩ x0).setCell ⟨g,1,none⟩ x1).setCell ⟨g,2,none⟩ x2).setCell ⟨g,3,none⟩ x3).setCell ⟨g,4,none⟩ x4).setCell ⟨g,5,none⟩ x5).frozen? ⟨g,6,none⟩ = false) ∧ ((((((((w.setCell ⟨g,0,none⟩ x0).setCell ⟨g,1,none⟩ x1).setCell ⟨g,2,none⟩ x2).setCell ⟨g,3,none⟩ x3).setCell ⟨g,4,none⟩ x4).setCell ⟨g,5,none⟩ x5).setCell ⟨g,6,none⟩ x6).cell? ⟨g,7,none⟩ = some a7 ∧ (((((((w.setCell ⟨g,0,none⟩ x0).setCell ⟨g,1,none⟩ x1).setCell ⟨g,2,none⟩ x2).setCell ⟨g,3,none⟩ x3).setCell ⟨g,4,none⟩ x4).setCell ⟨g,5,none⟩ x5).setCell ⟨g,6,none⟩ x6).frozen? ⟨g,7,none⟩ = false) ∧
  ((((((((w.setCell ⟨g,0,none⟩ x0).setCell ⟨g,1,none⟩ x1).setCell ⟨g,2,none⟩ x2).setCell ⟨g,3,none⟩ x3).setCell ⟨g,4,none⟩ x4).setCell ⟨g,5,none⟩ x5).setCell ⟨g,6,none⟩ x6).setCell ⟨g,7,none⟩ x7).cell? ⟨g,0,none⟩ = some x0 ∧ ((((((((w.setCell ⟨g,0,none⟩ x0).setCell ⟨g,1,none⟩ x1).setCell ⟨g,2,none⟩ x2).setCell ⟨g,3,none⟩ x3).setCell ⟨g,4,none⟩ x4).setCell ⟨g,5,none⟩ x5).setCell ⟨g,6,none⟩ x6).setCell ⟨g,7,none⟩ x7).cell? ⟨g,1,none⟩ = some x1 ∧ ((((((((w.setCell ⟨g,0,none⟩ x0).setCell ⟨g,1,none⟩ x1).setCell ⟨g,2,none⟩ x2).setCell ⟨g,3,none⟩ x3).setCell ⟨g,4,none⟩ x4).setCell ⟨g,5,none⟩ x5).setCell ⟨g,6,none⟩ x6).setCell ⟨g,7,none⟩ x7).cell? ⟨g,2,none⟩ = some x2 ∧ ((((((((w.setCell ⟨g,0,none⟩ x0).setCell ⟨g,1,none⟩ x1).setCell ⟨g,2,none⟩ x2).setCell ⟨g,3,none⟩ x3).setCell ⟨g,4,none⟩ x4).setCell ⟨g,5,none⟩ x5).setCell ⟨g,6,none⟩ x6).setCell ⟨g,7,none⟩ x7).cell? ⟨g,3,none⟩ = some x3 ∧ ((((((((w.setCell ⟨g,0,none⟩ x0).setCell ⟨g,1,none⟩ x1).setCell ⟨g,2,none⟩ x2).setCell ⟨g,3,none⟩ x3).setCell ⟨g,4,none⟩ x4).setCell ⟨g,5,none⟩ x5).setCell ⟨g,6,none⟩ x6).setCell ⟨g,7,none⟩ x7).cell? ⟨g,4,none⟩ = some x4 ∧ ((((((((w.setCell ⟨g,0,none⟩ x0).setCell ⟨g,1,none⟩ x1).setCell ⟨g,2,none⟩ x2).setCell ⟨g,3,none⟩ x3).setCell ⟨g,4,none⟩ x4).setCell ⟨g,5,none⟩ x5).setCell ⟨g,6,none⟩ x6).setCell ⟨g,7,none⟩ x7).cell? ⟨g,5,none⟩ = some x5 ∧ ((((((((w.setCell ⟨g,0,none⟩ x0).setCell ⟨g,1,none⟩ x1).setCell ⟨g,2,none⟩ x2).setCell ⟨g,3,none⟩ x3).setCell ⟨g,4,none⟩ x4).setCell ⟨g,5,none⟩ x5).setCell ⟨g,6,none⟩ x6).setCell ⟨g,7,none⟩ x7).cell? ⟨g,6,none⟩ = some x6 ∧ ((((((((w.setCell ⟨g,0,none⟩ x0).setCell ⟨g,1,none⟩ x1).setCell ⟨g,2,none⟩ x2).setCell ⟨g,3,none⟩ x3).setCell ⟨g,4,none⟩ x4).setCell ⟨g,5,none⟩ x5).setCell ⟨g,6,none⟩ x6).setCell ⟨g,7,none⟩ x7).cell? ⟨g,7,none⟩ = some x7 := by
 have h1 : Blk (w.setCell ⟨g,0,none⟩ x0) g #[x0,a1,a2,a3,a4,a5,a6,a7] t := h.set 0 x0
 have h2 : Blk ((w.setCell ⟨g,0,none⟩ x0).setCell ⟨g,1,none⟩ x1) g #[x0,x1,a2,a3,a4,a5,a6,a7] t := h1.set 1 x1
 have h3 : Blk (((w.setCell ⟨g,0,none⟩ x0).setCell ⟨g,1,none⟩ x1).setCell ⟨g,2,none⟩ x2) g #[x0,x1,x2,a3,a4,a5,a6,a7] t := h2.set 2 x2
 have h4 : Blk ((((w.setCell ⟨g,0,none⟩ x0).setCell ⟨g,1,none⟩ x1).setCell ⟨g,2,none⟩ x2).setCell ⟨g,3,none⟩ x3) g #[x0,x1,x2,x3,a4,a5,a6,a7] t := h3.set 3 x3
 have h5 : Blk (((((w.setCell ⟨g,0,none⟩ x0).setCell ⟨g,1,none⟩ x1).setCell ⟨g,2,none⟩ x2).setCell ⟨g,3,none⟩ x3).setCell ⟨g,4,none⟩ x4) g #[x0,x1,x2,x3,x4,a5,a6,a7] t := h4.set 4 x4
 have h6 : Blk ((((((w.setCell ⟨g,0,none⟩ x0).setCell ⟨g,1,none⟩ x1).setCell ⟨g,2,none⟩ x2).setCell ⟨g,3,none⟩ x3).setCell ⟨g,4,none⟩ x4).setCell ⟨g,5,none⟩ x5) g #[x0,x1,x2,x3,x4,x5,a6,a7] t := h5.set 5 x5
 have h7 : Blk (((((((w.setCell ⟨g,0,none⟩ x0).setCell ⟨g,1,none⟩ x1).setCell ⟨g,2,none⟩ x2).setCell ⟨g,3,none⟩ x3).setCell ⟨g,4,none⟩ x4).setCell ⟨g,5,none⟩ x5).setCell ⟨g,6,none⟩ x6) g #[x0,x1,x2,x3,x4,x5,x6,a7] t := h6.set 6 x6
 have h8 : Blk ((((((((w.setCell ⟨g,0,none⟩ x0).setCell ⟨g,1,none⟩ x1).setCell ⟨g,2,none⟩ x2).setCell ⟨g,3,none⟩ x3).setCell ⟨g,4,none⟩ x4).setCell ⟨g,5,none⟩ x5).setCell ⟨g,6,none⟩ x6).setCell ⟨g,7,none⟩ x7) g #[x0,x1,x2,x3,x4,x5,x6,x7] t := h7.set 7 x7
 exact ⟨⟨h.cell 0 _ rfl,h.free 0⟩,⟨h1.cell 1 _ rfl,h1.free 1⟩,⟨h2.cell 2 _ rfl,h2.free 2⟩,⟨h3.cell 3 _ rfl,h3.free 3⟩,⟨h4.cell 4 _ rfl,h4.free 4⟩,⟨h5.cell 5 _ rfl,h5.free 5⟩,⟨h6.cell 6 _ rfl,h6.free 6⟩,⟨h7.cell 7 _ rfl,h7.free 7⟩,h8.cell 0 _ rfl,h8.cell 1 _ rfl,h8.cell 2 _ rfl,h8.cell 3 _ rfl,h8.cell 4 _ rfl,h8.cell 5 _ rfl,h8.cell 6 _ rfl,h8.cell 7 _ rfl⟩
theorem belowC8 {w w' : World} {B g : Nat} (h : Below B w w') (hg : B ≤ g) (x0 x1 x2 x3 x4 x5 x6 x7 : Value) : Below B w ((((((((w'.setCell ⟨g,0,none⟩ x0).setCell ⟨g,1,none⟩ x1).setCell ⟨g,2,none⟩ x2).setCell ⟨g,3,none⟩ x3).setCell ⟨g,4,none⟩ x4).setCell ⟨g,5,none⟩ x5).setCell ⟨g,6,none⟩ x6).setCell ⟨g,7,none⟩ x7) := ((((((((h.setCell hg _).setCell hg _).setCell hg _).setCell hg _).setCell hg _).setCell hg _).setCell hg _).setCell hg _)
theorem cellsC8 {w : World} {g : Nat} {a0 a1 a2 a3 a4 a5 a6 a7 : Value} {t : TypeId} (h : Blk w g #[a0,a1,a2,a3,a4,a5,a6,a7] t) : w.cell? ⟨g,0,none⟩ = some a0 ∧ w.cell? ⟨g,1,none⟩ = some a1 ∧ w.cell? ⟨g,2,none⟩ = some a2 ∧ w.cell? ⟨g,3,none⟩ = some a3 ∧ w.cell? ⟨g,4,none⟩ = some a4 ∧ w.cell? ⟨g,5,none⟩ = some a5 ∧ w.cell? ⟨g,6,none⟩ = some a6 ∧ w.cell? ⟨g,7,none⟩ = some a7 := ⟨h.cell 0 _ rfl,h.cell 1 _ rfl,h.cell 2 _ rfl,h.cell 3 _ rfl,h.cell 4 _ rfl,h.cell 5 _ rfl,h.cell 6 _ rfl,h.cell 7 _ rfl⟩
def sta0 : Sta := ⟨0,0,0,[],⟨0,[],[]⟩,[]⟩
def StaA (s : ByteArray) (base : Nat) (e : Ending) (w' : World) : Prop := (∃ x u,StaRd s x ∧ e = .returned (.tuple #[u,.bool true]) ∧ StaO w' base u x) ∨ ((∀ x,¬ StaRd s x) ∧ ∃ u,e = .returned (.tuple #[u,.bool false]) ∧ StaO w' base u sta0)
theorem StaO.zero (w : World) (base : Nat) : StaO w base (.agg #[.int .i64 0,.int .i64 0,.int .i64 0,.slice none 0 0,.int .i64 0,.slice none 0 0,.slice none 0 0,.slice none 0 0]) sta0 := ⟨_,_,_,_,[],rfl,Owns.nil _ _ _ _,⟨rfl,⟨Owns.nil _ _ _ _,fun p hp => (by cases hp),List.Pairwise.nil⟩,owns_strs (Owns.nil _ _ _ _)⟩,Owns.nil _ _ _ _⟩
theorem StaO.keep {X Y : World} {base : Nat} {v : Value} {x : Sta} (h : StaO X base v x) (hk : ∀ g,base ≤ g → g < X.heap.size → Y.heap[g]? = X.heap[g]?) : StaO Y base v x := by
 obtain ⟨vb,vc,vf,vs,L,rfl,hb,⟨hL,hc,hf⟩,hs⟩ := h
 exact ⟨vb,vc,vf,vs,L,rfl,hb.kept fun g hg ho => hk g (hb.lt g ho).1 hg,⟨hL,hc.kept fun g u hu hg ho => hk g (hc.from g u hu ho) hg,hf.kept fun g hg ho => hk g ((strs_owns hf).lt g ho).1 hg⟩,hs.kept fun g hg ho => hk g (hs.lt g ho).1 hg⟩
theorem StaO.put8 {X : World} {base : Nat} {v : Value} {x : Sta} (i : StaO X base v x) {g : Nat} (hr : g < base) (x0 x1 x2 x3 x4 x5 x6 x7 : Value) : StaO ((((((((X.setCell ⟨g,0,none⟩ x0).setCell ⟨g,1,none⟩ x1).setCell ⟨g,2,none⟩ x2).setCell ⟨g,3,none⟩ x3).setCell ⟨g,4,none⟩ x4).setCell ⟨g,5,none⟩ x5).setCell ⟨g,6,none⟩ x6).setCell ⟨g,7,none⟩ x7) base v x := by
 have one : ∀ (X : World),StaO X base v x → ∀ j y,StaO (X.setCell ⟨g,j,none⟩ y) base v x := fun X i j y => i.keep fun b hb _ => other_heap X g j y b (by omega)
 exact one _ (one _ (one _ (one _ (one _ (one _ (one _ (one _ i 0 x0) 1 x1) 2 x2) 3 x3) 4 x4) 5 x5) 6 x6) 7 x7
end Go.Proofs.YthhamlahdjokkaaGreatDoor
