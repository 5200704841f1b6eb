/- BoImpl StI PtCopy PtEqv EgI1 FlFindM FlIxO EgI2 EgShelf -/
import Derived.Deep.CutRange
import Derived.Laws.CopyOwn
import Derived.Laws.StructEq
import Derived.Test.YthhamlahdjokkaaGreatDoorQe13
import Derived.Shelf.SlGeneric
import Derived.Ground.SlgmProg
import Derived.Ground.SlgnProg
import Derived.Shelf.SlicesE.Clone
import Derived.Shelf.SlicesG.CompactS
import Derived.Shelf.SortM.Plain
import Derived.Shelf.SortM.SortNone
import Derived.Test.YthhamlahdjokkaaGreatDoorProg
open List (setIfInBounds_toArray set_cons_zero set_cons_succ)
namespace Go.Proofs.YthhamlahdjokkaaGreatDoor
open Go.ChangeShapes Go.WideShapes Go.ChangeAt Go.RowKit Go.PlainAid
set_option linter.unusedVariables false
set_option maxRecDepth 20000 in
set_option maxHeartbeats 2000000 in
theorem implBucketsOk (l : List Pnt) (v : Value) (w : World) (B : Nat) (hv : Lies w B 2 v (ptR l)) (hn : l.length ≤ 1048576) (hB : B ≤ w.heap.size) : Calls Tryz.prog 68 #[v] w fun e w' => e = .returned (.bool (bokFrom 0 l)) ∧ Below w.heap.size w w' := by
 obtain ⟨A,cap,rfl,hl⟩ := pt_look hv
 have HL : Hid (∀ j,j < l.length → ∃ g off,A = some ⟨g,off,none⟩ ∧ g < B ∧ _) := hl
 have HB : Hid (B ≤ w.heap.size) := hB
 have HD : Hid (∀ k,k < l.length → ∀ a,bokFrom a (l.drop k) = _) := fun k h a => bok_drop l k h a
 have HE : Hid (∀ a,bokFrom a (l.drop l.length) = true) := fun a => by rw [List.drop_length]; rfl
 have cB := fun wx => implBucket 1099511627776 wx
 rw [show bkt 1099511627776 = 10995116277 from by rw [bkt_in (by omega) (by omega)]; rfl] at cB
 obtain ⟨b0,hb0⟩ : ∃ b,bokFrom 0 l = b := ⟨_,rfl⟩
 have HE0 : Hid (bokFrom 0 (l.drop 0) = b0) := by unfold Hid; rw [List.drop_zero]; exact hb0
 rw [hb0]
 clear hl hB hv hb0
 have q1 : (l.length : Int) ≤ 1048576 := by omega
 generalize hN : l.length = n at *
 go_enter Tryz.func68,Tryz.ntmps68
 go_wp2_with fail
 go_loopw [3,5,8] (fun v3 v5 v8 wr => ∃ (k : Nat) (a : Int),k ≤ n ∧ v8 = .int .i64 (k : Int) ∧ v3 = .int .i64 a ∧ Hid ((-1 ≤ a ∧ a ≤ 10995116278) ∧ bokFrom a (l.drop k) = b0) ∧ Below w.heap.size w wr) (fun _ _ i _ => n - (intOf i).toNat)
 case atStart => exact ⟨0,0,by omega,rfl,rfl,⟨by omega,HE0.out⟩,Below.refl _ _⟩
 case round =>
  obtain ⟨k,a,hk,rfl,rfl,HA,hb⟩ := hrel
  have HB1 := hQz hb
  clear hb
  by_cases hlt : k < n
  ·have q4 : (k : Int) < (n : Int) := by omega
   obtain ⟨g,off,rfl,hg,ha0,ha1⟩ := HL.out k hlt
   have hgw : g < w.heap.size := Nat.lt_of_lt_of_le hg HB.out
   rw [← HB1.out.cell (p := ⟨_,_,none⟩) hgw] at ha0
   rw [← HB1.out.cell (p := ⟨_,_,none⟩) hgw] at ha1
   have hd := HD.out k hlt a
   rw [HA.out.2] at hd
   generalize (l.getD k default).t = x at *
   generalize (l.getD k default).v = y at *
   have H0 : Hid (b0 = _) := hd
   have hsz := HB1.out.size
   obtain ⟨X,hX⟩ : ∃ X,X = wr.alloc (.cells #[.int .i64 x,.int .i64 y] 58) := ⟨_,rfl⟩
   have BX : Hid (Below w.heap.size w X) := by rw [hX]; exact HB1.out.alloc hsz _
   have hR : X.heap[wr.heap.size]? = some (.cells #[.int .i64 x,.int .i64 y] 58 (0,0)) := by rw [hX]; exact heap_alloc_new wr _
   have e0 : X.cell? ⟨wr.heap.size,0,none⟩ = some (.int .i64 x) := by rw [cell_of_row _ _ 0 _ _ (0,0) hR]; rfl
   have e1 : X.cell? ⟨wr.heap.size,1,none⟩ = some (.int .i64 y) := by rw [cell_of_row _ _ 1 _ _ (0,0) hR]; rfl
   clear hd hR hsz
   have cN := fun wx => inI x a 10995116277 wx
   have cS := fun wx => inI y 0 1 wx
   have hi1 : Hid (inRg x a 10995116277 = true → a ≤ x ∧ x ≤ 10995116277) := fun h => by unfold inRg at h; simp at h; omega
   have hA := HA.out.1
   obtain ⟨p,hp⟩ : ∃ p,p = wr.heap.size := ⟨_,rfl⟩
   rw [← hp] at e0 e1
   have S0 : Hid (X.drew.cell? ⟨p,0,none⟩ = some (.int .i64 x) ∧ X.drew.cell? ⟨p,1,none⟩ = some (.int .i64 y)) := ⟨e0,e1⟩
   have D0 : X.drew.cell? ⟨p,0,none⟩ = some (.int .i64 x) := e0
   have BD : Hid (Below w.heap.size w X.drew) := BX.out.drew
   clear e0 e1
   cases hc : inRg x a 10995116277 <;> rw [hc] at cN H0 hi1
   ·clear hA
    go_wp2_with fail
    rw [← hX,← hp]
    clear hX hp
    refine wp_region_until (fun w' => w'.cell? ⟨p,0,none⟩ = some (.int .i64 x) ∧ w'.cell? ⟨p,1,none⟩ = some (.int .i64 y)) (fun _ => false) 12 (by rfl) (by kernel_rfl) ?_
    refine tKf 0 S0.out ?_
    refine tKf 1 S0.out ?_
    refine tKf 2 S0.out ?_
    refine uNe 3 (fun K hK => ?_)
    go_simp
    refine (cB _).mono ?_
    rintro e w' ⟨rfl,rfl⟩
    go_wp2_with fail
    refine hK.out _ _ (fun _ h => h) ?_
    clear hK K
    try simp only [Act.put,zQ1,zQ2,zQ3]
    refine uNe 4 (fun K hK => ?_)
    go_simp
    refine (cN _).mono ?_
    rintro e w' ⟨rfl,rfl⟩
    go_wp2_with fail
    refine hK.out _ _ (fun _ h => h) ?_
    clear hK K
    try simp only [Act.put,zQ1,zQ2,zQ3]
    refine tKf 5 S0.out ?_
    refine tKf 6 S0.out ?_
    refine sKf 7 ?_
    refine sKf 8 ?_
    refine sKf 9 ?_
    refine sKf 10 ?_
    refine tKf 11 S0.out ?_
    refine until_done (by kernel_rfl) ?_ _
    go_wp2_with fail
    go_ret
    exact ⟨by rw [H0.out]; rfl,BD.out⟩
   ·have hx := hi1.out rfl
    have e9 : IntKind.i64.wrap (x + 1) = x + 1 := by rw [IntKind.wrap_i64]; omega
    have e8 : wrap64 (x + 1) = x + 1 := by unfold wrap64; omega
    have HX9 : Hid (-1 ≤ x + 1 ∧ x + 1 ≤ 10995116278) := by unfold Hid; omega
    clear hA hi1 hx
    cases hc2 : inRg y 0 1 <;> rw [hc2] at cS H0
    ·go_wp2_with fail
     rw [← hX,← hp]
     clear hX hp
     refine wp_region_until (fun w' => w'.cell? ⟨p,0,none⟩ = some (.int .i64 x) ∧ w'.cell? ⟨p,1,none⟩ = some (.int .i64 y)) (fun _ => false) 12 (by rfl) (by kernel_rfl) ?_
     refine tKf 0 S0.out ?_
     refine tKf 1 S0.out ?_
     refine tKf 2 S0.out ?_
     refine uNe 3 (fun K hK => ?_)
     go_simp
     refine (cB _).mono ?_
     rintro e w' ⟨rfl,rfl⟩
     go_wp2_with fail
     refine hK.out _ _ (fun _ h => h) ?_
     clear hK K
     try simp only [Act.put,zQ1,zQ2,zQ3]
     refine uNe 4 (fun K hK => ?_)
     go_simp
     refine (cN _).mono ?_
     rintro e w' ⟨rfl,rfl⟩
     go_wp2_with fail
     refine hK.out _ _ (fun _ h => h) ?_
     clear hK K
     try simp only [Act.put,zQ1,zQ2,zQ3]
     refine tKf 5 S0.out ?_
     refine tKf 6 S0.out ?_
     refine tKf 7 S0.out ?_
     refine tKf 8 S0.out ?_
     refine uNe 9 (fun K hK => ?_)
     go_simp
     refine (cS _).mono ?_
     rintro e w' ⟨rfl,rfl⟩
     go_wp2_with fail
     refine hK.out _ _ (fun _ h => h) ?_
     clear hK K
     try simp only [Act.put,zQ1,zQ2,zQ3]
     refine tKf 10 S0.out ?_
     refine tKf 11 S0.out ?_
     refine until_done (by kernel_rfl) ?_ _
     go_wp2_with fail
     go_ret
     exact ⟨by rw [H0.out]; rfl,BD.out⟩
    ·go_wp2_with fail
     rw [← hX,← hp]
     clear hX hp
     refine wp_region_until (fun w' => w'.cell? ⟨p,0,none⟩ = some (.int .i64 x) ∧ w'.cell? ⟨p,1,none⟩ = some (.int .i64 y)) (fun _ => false) 12 (by rfl) (by kernel_rfl) ?_
     refine tKf 0 S0.out ?_
     refine tKf 1 S0.out ?_
     refine tKf 2 S0.out ?_
     refine uNe 3 (fun K hK => ?_)
     go_simp
     refine (cB _).mono ?_
     rintro e w' ⟨rfl,rfl⟩
     go_wp2_with fail
     refine hK.out _ _ (fun _ h => h) ?_
     clear hK K
     try simp only [Act.put,zQ1,zQ2,zQ3]
     refine uNe 4 (fun K hK => ?_)
     go_simp
     refine (cN _).mono ?_
     rintro e w' ⟨rfl,rfl⟩
     go_wp2_with fail
     refine hK.out _ _ (fun _ h => h) ?_
     clear hK K
     try simp only [Act.put,zQ1,zQ2,zQ3]
     refine tKf 5 S0.out ?_
     refine tKf 6 S0.out ?_
     refine tKf 7 S0.out ?_
     refine tKf 8 S0.out ?_
     refine uNe 9 (fun K hK => ?_)
     go_simp
     refine (cS _).mono ?_
     rintro e w' ⟨rfl,rfl⟩
     go_wp2_with fail
     refine hK.out _ _ (fun _ h => h) ?_
     clear hK K
     try simp only [Act.put,zQ1,zQ2,zQ3]
     refine tKf 10 S0.out ?_
     refine tKf 11 S0.out ?_
     refine until_done (by kernel_rfl) ?_ _
     go_wp2_with fail
     go_roundw
     case rel => exact ⟨k + 1,x + 1,by omega,by go_num,rfl,⟨HX9.out,by rw [H0.out]; rfl⟩,BD.out⟩
     case measure => simp [intOf]; omega
  ·obtain rfl : k = n := by omega
   have hz := HA.out.2
   rw [HE.out] at hz
   have HZ : Hid (true = b0) := hz
   clear hz
   go_wp2_with fail
   go_ret
   exact ⟨by rw [← HZ.out]; rfl,HB1.out⟩
end Go.Proofs.YthhamlahdjokkaaGreatDoor
namespace Go.Proofs.YthhamlahdjokkaaGreatDoor
open Go.ChangeShapes Go.WideShapes Go.ChangeAt Go.RowKit Go.PlainAid
set_option linter.unusedVariables false
set_option maxHeartbeats 400000 in
theorem implPast (n m : Int) (w : World) (h0 : -10 ≤ n) (h1 : n ≤ 10995116277) : Calls Tryz.prog 69 #[.int .i64 n,.int .i64 m] w fun e w' => e = .returned (.bool (decide ((n + 1) * 100 ≤ m))) ∧ w = w' := by
 have a1 : IntKind.i64.wrap (n + 1) = n + 1 := by rw [IntKind.wrap_i64]; omega
 have a2 : IntKind.i64.wrap ((n + 1) * 100) = (n + 1) * 100 := by rw [IntKind.wrap_i64]; omega
 have b1 : wrap64 (n + 1) = n + 1 := by unfold wrap64; omega
 have b2 : wrap64 ((n + 1) * 100) = (n + 1) * 100 := by unfold wrap64; omega
 clear h0 h1
 go_enter Tryz.func69,Tryz.ntmps69
 go_wp2
 go_ret
 exact ⟨rfl,rfl⟩
set_option maxRecDepth 20000 in
set_option maxHeartbeats 4000000 in
theorem implSessionsOk (l : List Ses) (v : Value) (w : World) (B : Nat) (hv : Lies w B 6 v (sesR l)) (hn : l.length ≤ 1048576) (hd : ∀ s ∈ l,s.data.size ≤ 1048576) (hB : B ≤ w.heap.size) : Calls Tryz.prog 29 #[v] w fun e w' => e = .returned (.bool (sesFrom 1 l)) ∧ Below w.heap.size w w' := by
 obtain ⟨A,cap,rfl,hl⟩ := ses_look hv
 have HL : Hid (∀ j,j < l.length → ∃ g off,A = some ⟨g,off,none⟩ ∧ g < B ∧ _) := hl
 have HB : Hid (B ≤ w.heap.size) := hB
 have HDT : Hid (∀ k,k < l.length → (l.getD k default).data.size ≤ maxLen) := fun k hk => by have := hd _ (getD_mem l k hk); unfold maxLen; omega
 have HD : Hid (∀ k,k < l.length → ∀ a,sesFrom a (l.drop k) = _) := fun k h a => ses_drop l k h a
 have HE : Hid (∀ a,sesFrom a (l.drop l.length) = true) := fun a => by rw [List.drop_length]; rfl
 obtain ⟨b0,hb0⟩ : ∃ b,sesFrom 1 l = b := ⟨_,rfl⟩
 have HE0 : Hid (sesFrom 1 (l.drop 0) = b0) := by unfold Hid; rw [List.drop_zero]; exact hb0
 rw [hb0]
 clear hl hB hv hb0 hd
 have q1 : (l.length : Int) ≤ 1048576 := by omega
 generalize hN : l.length = n at *
 go_enter Tryz.func29,Tryz.ntmps29
 go_wp2_with fail
 go_loopw [3,5,8] (fun v3 v5 v8 wr => ∃ (k : Nat) (a : Int),k ≤ n ∧ v8 = .int .i64 (k : Int) ∧ v3 = .int .i64 a ∧ Hid ((0 ≤ a ∧ a ≤ 10) ∧ sesFrom a (l.drop k) = b0) ∧ Below w.heap.size w wr) (fun _ _ i _ => n - (intOf i).toNat)
 case atStart => exact ⟨0,1,by omega,rfl,rfl,⟨by omega,HE0.out⟩,Below.refl _ _⟩
 case round =>
  obtain ⟨k,a,hk,rfl,rfl,HA,hb⟩ := hrel
  have HB1 := hQz hb
  clear hb
  by_cases hlt : k < n
  ·have q4 : (k : Int) < (n : Int) := by omega
   obtain ⟨g,off,rfl,hg,ha0,ha1,ha2,ha3,ha4,ha5⟩ := HL.out k hlt
   have hgw : g < w.heap.size := Nat.lt_of_lt_of_le hg HB.out
   rw [← HB1.out.cell (p := ⟨_,_,none⟩) hgw] at ha0
   rw [← HB1.out.cell (p := ⟨_,_,none⟩) hgw] at ha1
   rw [← HB1.out.cell (p := ⟨_,_,none⟩) hgw] at ha2
   rw [← HB1.out.cell (p := ⟨_,_,none⟩) hgw] at ha3
   rw [← HB1.out.cell (p := ⟨_,_,none⟩) hgw] at ha4
   rw [← HB1.out.cell (p := ⟨_,_,none⟩) hgw] at ha5
   have hdd := HDT.out k hlt
   have hd := HD.out k hlt a
   rw [HA.out.2] at hd
   generalize l.getD k default = z at *
   obtain ⟨xc,xs,xo,xi,xm,xd⟩ := z
   simp only [Ses.ans] at ha0 ha1 ha2 ha3 ha4 ha5 hd hdd
   have cA := fun wx => implAnswerOk ⟨xo,xi,xm,xd⟩ wx hdd
   unfold vAns at cA
   simp only at cA
   have H0 : Hid (b0 = _) := hd
   have hsz := HB1.out.size
   obtain ⟨X,hX⟩ : ∃ X,X = wr.alloc (.cells #[.int .i64 xc,.int .i64 xs,.int .i64 xo,.int .i64 xi,.int .i64 xm,.string xd] 53) := ⟨_,rfl⟩
   have BX : Hid (Below w.heap.size w X) := by rw [hX]; exact HB1.out.alloc hsz _
   have KX : Hid (Blk X wr.heap.size #[.int .i64 xc,.int .i64 xs,.int .i64 xo,.int .i64 xi,.int .i64 xm,.string xd] 53) := by unfold Hid; rw [hX]; exact Blk.new wr _ _
   clear hd hsz hdd
   have cN := fun wx => inI xc a 4 wx
   have cS := fun wx => inI xs 1 1000000 wx
   have hi1 : Hid (inRg xc a 4 = true → a ≤ xc ∧ xc ≤ 4) := fun h => inRg_true.1 h
   obtain ⟨p,hp⟩ : ∃ p,p = wr.heap.size := ⟨_,rfl⟩
   rw [← hp] at KX
   cases hc : inRg xc a 4 <;> rw [hc] at cN H0
   ·go_wp2_with fail
    refine (cN _).mono ?_
    rintro e w' ⟨rfl,rfl⟩
    go_wp2_with fail
    rw [← hX]
    go_ret
    exact ⟨by rw [H0.out]; rfl,BX.out⟩
   ·cases hc2 : inRg xs 1 1000000 <;> rw [hc2] at cS H0
    ·go_wp2_with fail
     refine (cN _).mono ?_
     rintro e w' ⟨rfl,rfl⟩
     go_wp2_with fail
     refine (cS _).mono ?_
     rintro e w' ⟨rfl,rfl⟩
     go_wp2_with fail
     rw [← hX]
     go_ret
     exact ⟨by rw [H0.out]; rfl,BX.out⟩
    ·go_wp2_with fail
     refine (cN _).mono ?_
     rintro e w' ⟨rfl,rfl⟩
     go_wp2_with fail
     refine (cS _).mono ?_
     rintro e w' ⟨rfl,rfl⟩
     go_wp2_with fail
     rw [← hX]
     rw [← hp]
     clear hX hp
     refine (cA _).mono ?_
     rintro e X2 ⟨rfl,hb2⟩
     have B2 := hQz (BX.out.trans (hb2.mono BX.out.size))
     have e0 := (KX.out.on hb2 KX.out.lt).cell 0 _ rfl
     clear hb2
     cases hc3 : ansOk ⟨xo,xi,xm,xd⟩ <;> rw [hc3] at H0
     ·go_wp2_with fail
      go_ret
      exact ⟨by rw [H0.out]; rfl,B2.out⟩
     ·have e9 : IntKind.i64.wrap (xc + 1) = xc + 1 := by rw [IntKind.wrap_i64]; have := HA.out.1; have := hi1.out hc; omega
      have e8 : wrap64 (xc + 1) = xc + 1 := by unfold wrap64; have := HA.out.1; have := hi1.out hc; omega
      go_wp2_with fail
      go_roundw
      case rel => exact ⟨k + 1,xc + 1,by omega,by go_num,rfl,⟨by have := HA.out.1; have := hi1.out hc; omega,by rw [H0.out]; rfl⟩,B2.out⟩
      case measure => simp [intOf]; omega
  ·obtain rfl : k = n := by omega
   have hz := HA.out.2
   rw [HE.out] at hz
   have HZ : Hid (true = b0) := hz
   clear hz
   go_wp2_with fail
   go_ret
   exact ⟨by rw [← HZ.out]; rfl,HB1.out⟩
theorem zeroI (sf : Int) (nc cc nf cf : Nat) (Ac Af : Option Addr) (w : World) :
    Calls Tryz.prog 70 #[.agg #[.int .i64 sf, .slice Ac nc cc, .slice Af nf cf]] w fun e w' => e = .returned (.bool (decide (sf = 0) && decide (nc = 0) && decide (nf = 0))) ∧ Below w.heap.size w w' := by
  have BX : Hid (∀ b : Obj, Below w.heap.size w (w.alloc b)) := fun b => (Below.refl _ w).alloc (Nat.le_refl _) _
  by_cases z1 : sf = 0
  · subst z1
    by_cases z2 : nc = 0
    · have e2 : ((nc : Int) == 0) = true := by simp; omega
      by_cases z3 : nf = 0
      · have e3 : ((nf : Int) == 0) = true := by simp; omega
        rw [decide_eq_true rfl, decide_eq_true z2, decide_eq_true z3]
        clear z2 z3
        go_enter Tryz.func70, Tryz.ntmps70
        go_wp2_with fail
        go_ret
        exact ⟨rfl, BX.out _⟩
      · have e3 : ((nf : Int) == 0) = false := by simp; omega
        rw [decide_eq_true rfl, decide_eq_true z2, decide_eq_false z3]
        clear z2 z3
        go_enter Tryz.func70, Tryz.ntmps70
        go_wp2_with fail
        go_ret
        exact ⟨rfl, BX.out _⟩
    · have e2 : ((nc : Int) == 0) = false := by simp; omega
      rw [decide_eq_true rfl, decide_eq_false z2]
      clear z2
      go_enter Tryz.func70, Tryz.ntmps70
      go_wp2_with fail
      go_ret
      exact ⟨rfl, BX.out _⟩
  · have e1 : (sf == 0) = false := by simpa using z1
    rw [decide_eq_false z1]
    clear z1
    go_enter Tryz.func70, Tryz.ntmps70
    go_wp2_with fail
    go_ret
    exact ⟨rfl, BX.out _⟩
set_option maxRecDepth 20000 in
set_option maxHeartbeats 8000000 in
theorem implMetaOk (x : Sta) (v : Value) (w : World) (B : Nat) (hv : StaV w B v x) (hs : StShort x) (hB : B ≤ w.heap.size) :
  Calls Tryz.prog 30 #[v] w fun e w' => e = .returned (.bool (metaB x)) ∧ Below w.heap.size w w' := by
 obtain ⟨Ab,nb,cb,Ac,nc,cc,Af,nf,cf,As,ns,cs,rfl⟩ := hv.shape
 have HV : Hid (StaV w B (vSt x (.slice Ab nb cb) (.slice Ac nc cc) (.slice Af nf cf) (.slice As ns cs)) x) := hv
 obtain ⟨hb0,he0,hs0⟩ := hv.parts
 have HB : Hid (B ≤ w.heap.size) := hB
 have HS : Hid (StShort x) := hs
 have LB := hQz hb0
 have LE : Hid (EngV w B (.agg #[.int .i64 x.eng.floor,.slice Ac nc cc,.slice Af nf cf]) x.eng) := he0
 have LQ := hQz hs0
 have hnb : nb = x.bks.length := by have := hb0.room.1; rw [ptR_length] at this; exact this
 have hnc : nc = x.eng.cache.length ∧ nf = x.eng.files.length := by
  obtain ⟨vc',vf',e,h1,h2⟩ := he0
  unfold vE at e
  simp only [Value.agg.injEq,Array.mk.injEq,List.cons.injEq,true_and,and_true] at e
  obtain ⟨rfl,rfl⟩ := e
  obtain ⟨A1,c1,e1,_⟩ := h1.look
  obtain ⟨A2,c2,e2,_⟩ := st_look h2
  cases e1
  cases e2
  exact ⟨rfl,rfl⟩
 have hns : ns = x.ses.length := by have := hs0.room.1; rw [sesR_length] at this; exact this
 clear hv hb0 he0 hs0 hB hs
 have HE : Hid (metaB x = (inRg x.hold 0 100000 && inRg x.mark 0 1099511627776 && decide (nb ≤ 12) && bokFrom 0 x.bks && firstB x.mark x.bks && (decide (x.eng.floor = 0) && decide (nc = 0) && decide (nf = 0)))) := by
  unfold Hid metaB zeroB
  rw [hnb,hnc.1,hnc.2]
 have HN : Hid (nb = x.bks.length ∧ nc ≤ 1048576 ∧ nf ≤ 1048576 ∧ nb ≤ 1048576) := ⟨hnb,by rw [hnc.1]; exact HS.out.2.1.1.1,by rw [hnc.2]; exact HS.out.2.1.2.2.1,by rw [hnb]; exact HS.out.1⟩
 clear hnb hnc hns
 have cH := fun wx => inI x.hold 0 100000 wx
 have cM := fun wx => inI x.mark 0 1099511627776 wx
 unfold vSt
 generalize hsk : x.kind = sk at *
 generalize hsh : x.hold = sh at *
 generalize hsm : x.mark = sm at *
 generalize hsf : x.eng.floor = sf at *
 clear hsk hsh hsm hsf
 obtain ⟨X0,hX0⟩ : ∃ X0,X0 = w.alloc (.cells #[.int .i64 sk,.int .i64 sh,.int .i64 sm,.slice Ab nb cb,.int .i64 sf,.slice Ac nc cc,.slice Af nf cf,.slice As ns cs] 38) := ⟨_,rfl⟩
 have BX : Hid (Below w.heap.size w X0) := by unfold Hid; rw [hX0]; exact (Below.refl _ w).alloc (Nat.le_refl _) _
 have KX : Hid (Blk X0 w.heap.size #[.int .i64 sk,.int .i64 sh,.int .i64 sm,.slice Ab nb cb,.int .i64 sf,.slice Ac nc cc,.slice Af nf cf,.slice As ns cs] 38) := by unfold Hid; rw [hX0]; exact Blk.new w _ _
 have c1 := implBucketsOk x.bks (.slice Ab nb cb) X0 B (LB.out.on (BX.out.mono HB.out)) HS.out.1 (Nat.le_trans HB.out BX.out.size)
 have hnq := HN.out
 have q1 : (nb : Int) ≤ 1048576 := by omega
 have q2 : (nc : Int) ≤ 1048576 := by omega
 have q3 : (nf : Int) ≤ 1048576 := by omega
 clear hnq
 cases h1 : inRg sh 0 100000 <;> rw [h1] at cH HE <;> clear h1
 ·go_enter Tryz.func30,Tryz.ntmps30
  go_wp2_with fail
  refine (cH _).mono ?_
  rintro e w' ⟨rfl,rfl⟩
  go_wp2_with fail
  rw [← hX0]
  go_ret
  exact ⟨by rw [HE.out]; rfl,BX.out⟩
 cases h2 : inRg sm 0 1099511627776 <;> rw [h2] at cM HE <;> clear h2
 ·go_enter Tryz.func30,Tryz.ntmps30
  go_wp2_with fail
  refine (cH _).mono ?_
  rintro e w' ⟨rfl,rfl⟩
  go_wp2_with fail
  refine (cM _).mono ?_
  rintro e w' ⟨rfl,rfl⟩
  go_wp2_with fail
  rw [← hX0]
  go_ret
  exact ⟨by rw [HE.out]; rfl,BX.out⟩
 rcases Nat.lt_or_ge 12 nb with h3 | h3
 ·rw [show decide (nb ≤ 12) = false from decide_eq_false (by omega)] at HE
  have d3 : (12 : Int) < (nb : Int) := by omega
  clear h3
  go_enter Tryz.func30,Tryz.ntmps30
  go_wp2_with fail
  refine (cH _).mono ?_
  rintro e w' ⟨rfl,rfl⟩
  go_wp2_with fail
  refine (cM _).mono ?_
  rintro e w' ⟨rfl,rfl⟩
  go_wp2_with fail
  rw [← hX0]
  go_ret
  exact ⟨by rw [HE.out]; rfl,BX.out⟩
 rw [decide_eq_true h3] at HE
 have d3 : decide ((12 : Int) < (nb : Int)) = false := decide_eq_false (by omega)
 have H12 : Hid (nb ≤ 12) := h3
 clear h3
 go_enter Tryz.func30,Tryz.ntmps30
 go_wp2_with fail
 refine (cH _).mono ?_
 rintro e w' ⟨rfl,rfl⟩
 go_wp2_with fail
 refine (cM _).mono ?_
 rintro e w' ⟨rfl,rfl⟩
 go_wp2_with fail
 rw [← hX0]
 clear hX0
 refine c1.mono ?_
 rintro e X1 ⟨rfl,hb1⟩
 have B1 := hQz (BX.out.trans (hb1.mono BX.out.size))
 have KX1 := hQz (KX.out.on hb1 KX.out.lt)
 clear hb1 c1 cH cM
 cases h4 : bokFrom 0 x.bks
 ·rw [h4] at HE
  go_wp2_with fail
  go_ret
  exact ⟨by rw [HE.out]; rfl,B1.out⟩
 rw [h4] at HE
 have k2 := KX1.out.cell 2 _ rfl
 have k3 := KX1.out.cell 3 _ rfl
 have k4 := KX1.out.cell 4 _ rfl
 have k5 := KX1.out.cell 5 _ rfl
 have k6 := KX1.out.cell 6 _ rfl
 by_cases h5 : nb = 0
 ·have HF : Hid (firstB sm x.bks = true) := by
   unfold Hid
   rw [show x.bks = [] from List.eq_nil_of_length_eq_zero (by rw [← HN.out.1]; exact h5)]
   rfl
  rw [HF.out] at HE
  have d0 : decide ((0 : Int) < (nb : Int)) = false := decide_eq_false (by omega)
  have d1 : decide (0 < nb) = false := decide_eq_false (by omega)
  have S0 : Hid (X1.drew.cell? ⟨w.heap.size,2,none⟩ = some (.int .i64 sm) ∧ X1.drew.cell? ⟨w.heap.size,3,none⟩ = some (.slice Ab nb cb)) := ⟨k2,k3⟩
  have B1d : Hid (Below w.heap.size w X1.drew) := B1.out.drew
  replace k4 : X1.drew.cell? _ = _ := k4
  replace k5 : X1.drew.cell? _ = _ := k5
  replace k6 : X1.drew.cell? _ = _ := k6
  clear h5 k2 k3
  go_wp2_with fail
  refine wp_region_until (fun w' => w'.cell? ⟨w.heap.size,2,none⟩ = some (.int .i64 sm) ∧ w'.cell? ⟨w.heap.size,3,none⟩ = some (.slice Ab nb cb)) (fun _ => false) 14 (by rfl) (by kernel_rfl) ?_
  refine tKf 0 S0.out ?_
  refine tKf 1 S0.out ?_
  refine tKf 2 S0.out ?_
  refine tKf 3 S0.out ?_
  refine tKf 4 S0.out ?_
  refine sKf 5 ?_
  refine sKf 6 ?_
  refine sKf 7 ?_
  refine sKf 8 ?_
  refine sKf 9 ?_
  refine sKf 10 ?_
  refine sKf 11 ?_
  refine sKf 12 ?_
  refine tKf 13 S0.out ?_
  refine until_done (by kernel_rfl) ?_ _
  have cz := fun wx => zeroI sf nc cc nf cf Ac Af wx
  go_wp2_with fail
  refine (cz _).mono ?_
  rintro e w' ⟨rfl,hbz⟩
  go_wp2_with fail
  go_ret
  exact ⟨by rw [HE.out]; rfl,B1d.out.trans (hbz.mono B1d.out.size)⟩
 ·have hpos : 0 < nb := by omega
  obtain ⟨gA,cA,eA,hlk⟩ := pt_look (LB.out.on (B1.out.mono HB.out))
  rw [← HN.out.1] at eA
  cases eA
  obtain ⟨g,off,rfl,hg,hz0,_⟩ := hlk 0 (by rw [← HN.out.1]; exact hpos)
  have hbk := bok_drop x.bks 0 (by rw [← HN.out.1]; exact hpos) 0
  rw [List.drop_zero,h4] at hbk
  have hin : inRg (x.bks.getD 0 default).t 0 10995116277 = true := by
   have := hbk.symm
   rw [Bool.and_eq_true,Bool.and_eq_true] at this
   exact this.1.1
  have hfirst : Hid (firstB sm x.bks = !(decide (((x.bks.getD 0 default).t + 1) * 100 ≤ sm))) := by
   unfold Hid
   cases hq : x.bks with
   | nil => rw [hq] at HN; have := HN.out.1; simp at this; omega
   | cons y l =>
    show decide (sm < (y.t + 1) * 100) = !(decide ((y.t + 1) * 100 ≤ sm))
    by_cases hh : (y.t + 1) * 100 ≤ sm
    ·rw [decide_eq_true hh,decide_eq_false (by omega)]; rfl
    ·rw [decide_eq_false hh,decide_eq_true (by omega)]; rfl
  rw [hfirst.out] at HE
  generalize (x.bks.getD 0 default).t = z at *
  have hzb := inRg_true.1 hin
  have cP := fun wx => implPast z sm wx (by omega) (by omega)
  clear hlk hbk hin hfirst hzb
  have d0 : (0 : Int) < (nb : Int) := by omega
  rw [Nat.zero_mul,Nat.add_zero] at hz0
  have S0 : Hid (X1.drew.cell? ⟨w.heap.size,2,none⟩ = some (.int .i64 sm) ∧ X1.drew.cell? ⟨w.heap.size,3,none⟩ = some (.slice (some ⟨g,off,none⟩) nb cb) ∧ X1.drew.cell? ⟨g,off,none⟩ = some (.int .i64 z)) := ⟨k2,k3,hz0⟩
  have B1d : Hid (Below w.heap.size w X1.drew) := B1.out.drew
  replace k4 : X1.drew.cell? _ = _ := k4
  replace k5 : X1.drew.cell? _ = _ := k5
  replace k6 : X1.drew.cell? _ = _ := k6
  clear h5 k2 k3 hz0
  generalize decide ((z + 1) * 100 ≤ sm) = bz at *
  go_wp2_with fail
  refine wp_region_until (fun w' => w'.cell? ⟨w.heap.size,2,none⟩ = some (.int .i64 sm) ∧ w'.cell? ⟨w.heap.size,3,none⟩ = some (.slice (some ⟨g,off,none⟩) nb cb) ∧ w'.cell? ⟨g,off,none⟩ = some (.int .i64 z)) (fun _ => false) 14 (by rfl) (by kernel_rfl) ?_
  refine tKf 0 S0.out ?_
  refine tKf 1 S0.out ?_
  refine tKf 2 S0.out ?_
  refine tKf 3 S0.out ?_
  refine tKf 4 S0.out ?_
  refine tKf 5 S0.out ?_
  refine tKf 6 S0.out ?_
  refine tKf 7 S0.out ?_
  refine tKf 8 S0.out ?_
  refine tKf 9 S0.out ?_
  refine tKf 10 S0.out ?_
  refine tKf 11 S0.out ?_
  refine uNe 12 (fun K hK => ?_)
  go_simp
  refine (cP _).mono ?_
  rintro e w' ⟨rfl,rfl⟩
  go_wp2_with fail
  refine hK.out _ _ (fun _ h => h) ?_
  clear hK K
  try simp only [Act.put,zQ1,zQ2,zQ3]
  refine tKf 13 S0.out ?_
  refine until_done (by kernel_rfl) ?_ _
  cases bz
  ·skip
   have cz := fun wx => zeroI sf nc cc nf cf Ac Af wx
   go_wp2_with fail
   refine (cz _).mono ?_
   rintro e w' ⟨rfl,hbz⟩
   go_wp2_with fail
   go_ret
   exact ⟨by rw [HE.out]; rfl,B1d.out.trans (hbz.mono B1d.out.size)⟩
  ·go_wp2_with fail
   go_ret
   exact ⟨by rw [HE.out]; rfl,B1d.out⟩
end Go.Proofs.YthhamlahdjokkaaGreatDoor
namespace Go.Proofs.YthhamlahdjokkaaGreatDoor
open Go.RowKit Go.PlainAid
theorem run_copy_rows {P : Program} (w : World) (dT sT ty elem : TypeId) (g o dLen dCap : Nat) (a : Addr) (sLen sCap : Nat) (cur : Array Value) (t : TypeId) (cs : List Value) (sz : Nat)
  (hu : P.underlying dT = some (.slice elem)) (hs : (P.info? elem).map (·.size) = some sz)
  (hg : w.heap[g]? = some (.cells cur t (0,0))) (hn : cs.length = Nat.min sLen dLen * sz)
  (hsrc : ∀ j v,cs[j]? = some v → w.cell? (a.add j) = some v) (hfit : o + cs.length ≤ cur.size) (h1 : ∀ v ∈ cs,v.oneCell' = true) :
  (Builtin.copy_ #[dT,sT] ty #[.slice (some ⟨g,o,none⟩) dLen dCap,.slice (some a) sLen sCap]).run P w =
   .ok (goInt (Nat.min sLen dLen)) (w.setRow g (cur.toList.take o ++ cs ++ cur.toList.drop (o + cs.length)).toArray) := by
 have hl := run_loadCells_list (P := P) w a cs hsrc
 have hst := run_storeCells_at P g o t cs 0 cur w hg (by simpa using hfit) h1
 cases hq : P.info? elem with
 | none => simp [hq] at hs
 | some i =>
  have hi : i.size = sz := by simpa [hq] using hs
  simp [Builtin.copy_,run_underlying hu,Builtin.lenOf,Builtin.firstCells,sizeOf,typeInfo,hq,hi,← hn,hl,hst]
theorem run_copy_no {P : Program} (w : World) (dT sT ty elem : TypeId) (d a : Option Addr) (dLen dCap sCap : Nat) (sz : Nat) (hu : P.underlying dT = some (.slice elem)) (hs : (P.info? elem).map (·.size) = some sz) :
  (Builtin.copy_ #[dT,sT] ty #[.slice d dLen dCap,.slice a 0 sCap]).run P w = .ok (goInt 0) w := by
 cases hq : P.info? elem with
 | none => simp [hq] at hs
 | some i =>
  have hl : ∀ (x : Addr),(loadCells x 0).run P w = .ok #[] w := fun x => by simpa using run_loadCells_list (P := P) w x [] (by simp)
  have hm : Nat.min 0 dLen = 0 := Nat.zero_min _
  cases d <;> cases a <;> simp [Builtin.copy_,run_underlying hu,Builtin.lenOf,Builtin.firstCells,sizeOf,typeInfo,hq,hm,storeCells,hl]
theorem run_copy_own {P : Program} (w : World) (dT sT ty e : TypeId) (sz : Nat) (hu : P.underlying dT = some (.slice e)) (hs : (P.info? e).map (·.size) = some sz)
  (base g cap : Nat) (rows : List (List Value)) (hown : Owns w base e sz (.slice (some ⟨g,0,none⟩) rows.length cap) rows)
  (k : Nat) (dp : Option Addr) (dLen dCap : Nat) (hdl : dLen = rows.length - k) (hdp : k < rows.length → dp = some ⟨g,k * sz,none⟩)
  (more : List (List Value)) (u : Value) (B : Nat) (hl : Lies w B sz u more) (h1 : ∀ r ∈ more,∀ y ∈ r,y.oneCell' = true) (hfit : k + more.length ≤ rows.length) :
  ∃ w',(Builtin.copy_ #[dT,sT] ty #[.slice dp dLen dCap,u]).run P w = .ok (.int .i64 (more.length : Int)) w' ∧ Owns w' base e sz (.slice (some ⟨g,0,none⟩) rows.length cap) (rows.take k ++ more ++ rows.drop (k + more.length)) ∧ Below base w w' ∧ (∀ b,b ≠ g → w'.heap[b]? = w.heap[b]?) := by
 obtain ⟨A,c,rfl,hz,hms,hm⟩ := hl
 by_cases h0 : more.length = 0
 ·have hnil : more = [] := List.eq_nil_of_length_eq_zero h0
  subst hnil
  refine ⟨w,run_copy_no (P := P) w dT sT ty e dp A dLen dCap c sz hu hs,?_,Below.refl _ _,fun _ _ => rfl⟩
  simpa using hown
 ·rcases hm with hm | ⟨gs,off,rfl,hgs,hc⟩
  ·exact absurd hm h0
  have hkl : k < rows.length := by omega
  have hdp' := hdp hkl
  subst hdp'
  obtain ⟨hrs,hlen,hor⟩ := hown
  rcases hor with ⟨e1,_⟩ | ⟨g',cap',cur,e1,hbg,hg,hnc,hcm,hcs,htake⟩
  ·cases e1
  ·cases e1
   have hfl : more.flatten.length = more.length * sz := flat_length sz more hms
   have hmin : Nat.min more.length dLen = more.length := Nat.min_eq_left (by omega)
   have hsz1 : (k + more.length) * sz ≤ rows.length * sz := Nat.mul_le_mul_right sz hfit
   have hsz2 : rows.length * sz ≤ cap * sz := Nat.mul_le_mul_right sz hnc
   have hadd : (k + more.length) * sz = k * sz + more.length * sz := Nat.add_mul _ _ _
   have hrun := run_copy_rows (P := P) w dT sT ty e g (k * sz) dLen dCap ⟨gs,off,none⟩ more.length c cur e more.flatten sz hu hs hg (by rw [hmin,hfl]) (fun j v hj => by
    have e2 : (⟨gs,off,none⟩ : Addr).add j = ⟨gs,off + j,none⟩ := by cases j <;> simp [Addr.add]
    rw [e2]
    exact hc j v hj) (by omega) (fun y hy => by
    obtain ⟨r,hr,hyr⟩ := List.mem_flatten.1 hy
    exact h1 r hr y hyr)
   rw [hmin] at hrun
   refine ⟨_,hrun,?_,below_setRow (Below.refl _ _) hbg _,fun b hb => setRow_other w g b _ hb⟩
   have hft : rows.flatten = (rows.take k).flatten ++ (rows.drop k).flatten := by rw [← List.flatten_append,List.take_append_drop]
   have hl1 : (rows.take k).flatten.length = k * sz := by rw [flat_length sz _ (fun r hr => hrs r (List.mem_of_mem_take hr)),List.length_take,Nat.min_eq_left (by omega)]
   have hl2 : (rows.take (k + more.length)).flatten.length = (k + more.length) * sz := by rw [flat_length sz _ (fun r hr => hrs r (List.mem_of_mem_take hr)),List.length_take,Nat.min_eq_left (by omega)]
   have hft2 : rows.flatten = (rows.take (k + more.length)).flatten ++ (rows.drop (k + more.length)).flatten := by rw [← List.flatten_append,List.take_append_drop]
   have hall : ∀ r ∈ rows.take k ++ more ++ rows.drop (k + more.length),r.length = sz := by
    intro r hr
    rcases List.mem_append.1 hr with hr | hr
    ·rcases List.mem_append.1 hr with hr | hr
     ·exact hrs r (List.mem_of_mem_take hr)
     ·exact hms r hr
    ·exact hrs r (List.mem_of_mem_drop hr)
   have hnl : (rows.take k ++ more ++ rows.drop (k + more.length)).length = rows.length := by
    simp only [List.length_append,List.length_take,List.length_drop]
    omega
   have hcl : cur.toList.length = cap * sz := by rw [Array.length_toList]; exact hcs
   have hf1 : (rows.take k).flatten = cur.toList.take (k * sz) := by
    have : (rows.take k).flatten = rows.flatten.take (k * sz) := by rw [hft]; exact (List.take_left' hl1).symm
    rw [this,← htake,List.take_take]
    congr 1
    omega
   have hf2 : (rows.drop (k + more.length)).flatten = (cur.toList.drop ((k + more.length) * sz)).take (rows.length * sz - (k + more.length) * sz) := by
    have : (rows.drop (k + more.length)).flatten = rows.flatten.drop ((k + more.length) * sz) := by rw [hft2]; exact (List.drop_left' hl2).symm
    rw [this,← htake,List.drop_take]
   refine ⟨hall,?_,.inr ⟨g,cap,_,by rw [hnl],hbg,setRow_heap w g cur _ e _ hg,by rw [hnl]; exact hnc,hcm,?_,?_⟩⟩
   ·rw [flat_length sz _ hall]
   ·rw [List.size_toArray]
    simp only [List.length_append,List.length_take,List.length_drop,hfl,hcl]
    omega
   ·rw [hnl,List.toList_toArray,List.flatten_append,List.flatten_append,hf1,hf2,hfl,← hadd]
    rw [List.take_append]
    have e3 : (List.take (k * sz) cur.toList ++ more.flatten).length = (k + more.length) * sz := by
     simp only [List.length_append,List.length_take,hfl,hcl]
     omega
    rw [e3,List.take_of_length_le (by omega)]
end Go.Proofs.YthhamlahdjokkaaGreatDoor
namespace Go.Proofs.YthhamlahdjokkaaGreatDoor
open Go.ChangeShapes Go.WideShapes Go.ChangeAt Go.RowKit Go.PlainAid
set_option linter.unusedVariables false
theorem elem_pts : Tryz.prog.elem 99 = 98 := by kernel_rfl
theorem size_pt : (Tryz.prog.info? 98).map (·.size) = some 2 := by kernel_rfl
set_option maxRecDepth 100000 in
theorem cut_from {w : World} {B n c : Nat} {A : Option Addr} {rows : List (List Value)} (h : Lies w B 2 (.slice A n c) rows) (k : Nat) (hk : k ≤ rows.length) : ∃ A' c',(∀ wx,(Instr.sliceAt 99 (.slice A n c) (some (.int .i64 (k : Int))) none none).run Tryz.prog wx = .ok (.slice A' (n - k) c') wx) ∧ Lies w B 2 (.slice A' (n - k) c') (rows.drop k) ∧ (c ≠ k → A' = A.map (·.add (k * 2))) := by
 have hr := h.room
 have hu : Tryz.prog.underlying 99 = some (.slice (Tryz.prog.elem 99)) := by rw [elem_pts]; exact Tryz.underlying99
 have hz := size_pt
 cases hq : Tryz.prog.info? 98 with
 | none => rw [hq] at hz; simp at hz
 | some i =>
  rw [hq] at hz
  have hi : i.size = 2 := by simpa using hz
  have hrun : ∀ wx,(Instr.sliceAt 99 (.slice A n c) (some (.int .i64 (k : Int))) none none).run Tryz.prog wx = .ok (.slice (if c = k then A else A.map (·.add (k * 2))) (n - k) (c - k)) wx := fun wx => by
   rw [run_sliceAt_slice wx 99 _ _ _ _ hu,run_slice_l wx 99 A n c hu .i64 (k : Int) (by omega) (by omega),elem_pts]
   simp [sizeOf,typeInfo,hq,hi,sliced]
  refine ⟨_,_,hrun,?_,fun hne => if_neg hne⟩
  by_cases hck : c = k
  ·rw [if_pos hck]
   have h0 : rows.drop k = [] := List.drop_eq_nil_of_le (by omega)
   rw [h0]
   refine ⟨A,c - k,by simp; omega,⟨fun e => by omega,by simp⟩,fun r hr => (by cases hr),.inl rfl⟩
  ·rw [if_neg hck]
   match A,h with
   | none,h =>
    obtain ⟨A',c',e,hz,hs,hh⟩ := h
    cases e
    have := hz.1 rfl
    rcases hh with hh | ⟨g,off,e,_⟩
    ·have hk0 : k = 0 := by omega
     subst hk0
     simp only [Option.map_none,List.drop_zero,Nat.sub_zero]
     exact ⟨none,c,rfl,hz,hs,.inl hh⟩
    ·cases e
   | some ad,h =>
    obtain ⟨b,off,spot⟩ := ad
    by_cases hl0 : rows.length = k
    ·have h0 : rows.drop k = [] := List.drop_eq_nil_of_le (by omega)
     rw [h0]
     refine ⟨_,c - k,by rw [show n - k = 0 by omega]; rfl,⟨fun e => (by cases e),by simp⟩,fun r hr => (by cases hr),.inl rfl⟩
    ·have hspot : spot = none := by
      obtain ⟨A',c',e,hz,hs,hh⟩ := h
      cases e
      rcases hh with hh | ⟨g,off,e,_⟩
      ·omega
      ·cases e; rfl
     subst hspot
     have e1 : (⟨b,off,none⟩ : Addr).add (k * 2) = ⟨b,off + k * 2,none⟩ := by
      generalize k * 2 = j
      cases j <;> simp [Addr.add]
     have := h.behind k hk
     simp only [Option.map_some,e1]
     exact this
theorem cut_to (A : Option Addr) (n c k : Nat) (hk : k ≤ c) (wx : World) : (Instr.sliceAt 99 (.slice A n c) none (some (.int .i64 (k : Int))) none).run Tryz.prog wx = .ok (.slice A k c) wx := by
 have hu : Tryz.prog.underlying 99 = some (.slice (Tryz.prog.elem 99)) := by rw [elem_pts]; exact Tryz.underlying99
 have hz := size_pt
 cases hq : Tryz.prog.info? 98 with
 | none => rw [hq] at hz; simp at hz
 | some i =>
  rw [run_sliceAt_slice wx 99 _ _ _ _ hu,run_slice_h wx 99 A n c hu .i64 (k : Int) (by omega) (by omega),elem_pts]
  have e : A.map (·.add (0 * i.size)) = A := by
   cases A <;> simp [Addr.add]
  simp [sizeOf,typeInfo,hq,sliced]
  intro _
  simpa using e
def sliceLen : Value → Nat
 | .slice _ n _ => n
 | _ => 0
end Go.Proofs.YthhamlahdjokkaaGreatDoor
namespace Go.Proofs.YthhamlahdjokkaaGreatDoor
open Go.ChangeShapes Go.WideShapes Go.ChangeAt Go.RowKit Go.PlainAid
set_option linter.unusedVariables false
set_option maxHeartbeats 1000000 in
theorem implHowMany (l : List Ser) (v : Value) (w : World) (B : Nat) (hv : SerV w B v l) (hn : l.length ≤ 1000) (hs : ∀ x ∈ l,x.pts.length ≤ 1000) (hB : B ≤ w.heap.size) :
  Calls Tryz.prog 172 #[v] w fun e w' => e = .returned (.int .i64 (cntS l : Int)) ∧ Below w.heap.size w w' := by
 obtain ⟨A,cap,rfl,hl⟩ := hv.look
 have HL : Hid (∀ wx,Below w.heap.size w wx → ∀ j,j < l.length → ∃ g off u,A = some ⟨g,off,none⟩ ∧ g < B ∧ wx.cell? ⟨g,off + j * 2,none⟩ = some (.string (l.getD j default).key) ∧ wx.cell? ⟨g,off + j * 2 + 1,none⟩ = some u ∧ Lies wx B 2 u (ptR (l.getD j default).pts)) := fun wx hx => by
  obtain ⟨A',c',e',h⟩ := (hv.on (hx.mono hB)).look
  cases e'
  exact h
 have HC : Hid (∀ k,k ≤ l.length → cntS (l.take k) ≤ 1000 * k) := cntS_le l hs
 have HS : Hid (∀ k,k < l.length → cntS (l.take (k + 1)) = cntS (l.take k) + (l.getD k default).pts.length) := fun k hk => cntS_snoc l k hk
 have HT : Hid (∀ k,k = l.length → cntS (l.take k) = cntS l) := fun k hk => by rw [hk,List.take_length]
 have HM : Hid (∀ k,k < l.length → (l.getD k default).pts.length ≤ 1000) := fun k hk => hs _ (getD_mem l k hk)
 have H0 : Hid (cntS (l.take 0) = 0) := by simp [Hid,cntS]
 have q1 : (l.length : Int) ≤ 1000 := by omega
 clear hl hv hs hB
 generalize hN : l.length = n at *
 clear hN
 go_enter Tryz.func172,Tryz.ntmps172
 go_wp2_with fail
 go_loopw [3,8] (fun v3 v8 wr => ∃ k : Nat,k ≤ n ∧ v8 = .int .i64 (k : Int) ∧ v3 = .int .i64 (cntS (l.take k) : Int) ∧ Below w.heap.size w wr) (fun _ i _ => n - (intOf i).toNat)
 case atStart => exact ⟨0,by omega,rfl,by rw [H0.out]; rfl,Below.refl _ _⟩
 case round =>
  obtain ⟨k,hk,rfl,rfl,hb⟩ := hrel
  have HBr := hQz hb
  clear hb
  by_cases hlt : k < n
  ·have q4 : (k : Int) < (n : Int) := by omega
   obtain ⟨g,off,u,rfl,hg,e1,e2,hu⟩ := HL.out wr HBr.out k hlt
   obtain ⟨A',c',rfl,_⟩ := pt_look hu
   have h1 := HC.out k hk
   have h2 := HM.out k hlt
   have h3 := HS.out k hlt
   have HE : Hid (cntS (l.take (k + 1)) = cntS (l.take k) + (l.getD k default).pts.length) := h3
   clear hu h3
   generalize cntS (l.take k) = c at *
   generalize (l.getD k default).pts.length = p at *
   generalize (l.getD k default).key = xk at *
   have q5 : (c : Int) ≤ 1000000 := by omega
   have q6 : (p : Int) ≤ 1000 := by omega
   have w2 : wrap64 ((c : Int) + (p : Int)) = (c : Int) + (p : Int) := by unfold wrap64; omega
   have BA : Hid (Below w.heap.size w (wr.alloc (.cells #[.string xk,.slice A' p c'] 101))) := HBr.out.alloc HBr.out.size _
   go_wp2_with fail
   go_roundw
   case rel => exact ⟨k + 1,by omega,by go_num,by rw [HE.out]; go_num,BA.out⟩
   case measure => simp [intOf]; omega
  ·obtain rfl : k = n := by omega
   have HE := hQz (HT.out k rfl)
   go_wp2_with fail
   go_ret
   exact ⟨by rw [← HE.out]; rfl,HBr.out⟩
def CaOk (l : List Ser) (f : Int) : Prop := SOk l ∧ cntS l ≤ 40 ∧ ∀ x ∈ l,f ≤ tAt x.pts 0
noncomputable instance (l : List Ser) (f : Int) : Decidable (CaOk l f) := Classical.propDecidable _
set_option maxHeartbeats 2000000 in
theorem implCacheOk (l : List Ser) (f : Int) (v : Value) (w : World) (B : Nat) (hv : SerV w B v l) (hs : SShort l) (hf : ∀ x ∈ l,x.key.size ≤ maxLen) (hB : B ≤ w.heap.size) :
  Calls Tryz.prog 149 #[v,.int .i64 f] w fun e w' => e = .returned (.bool (decide (CaOk l f))) ∧ Below w.heap.size w w' := by
 have HV : Hid (SerV w B v l) := hv
 obtain ⟨A,cap,rfl,hl⟩ := hv.look
 have HL : Hid (∀ wx,Below w.heap.size w wx → ∀ j,j < l.length → ∃ g off u,A = some ⟨g,off,none⟩ ∧ g < B ∧ wx.cell? ⟨g,off + j * 2,none⟩ = some (.string (l.getD j default).key) ∧ wx.cell? ⟨g,off + j * 2 + 1,none⟩ = some u ∧ Lies wx B 2 u (ptR (l.getD j default).pts)) := fun wx hx => by
  obtain ⟨A',c',e',h⟩ := (hv.on (hx.mono hB)).look
  cases e'
  exact h
 have c1 := implSeriesOk l _ w B hv hs hf hB
 have HB : Hid (B ≤ w.heap.size) := hB
 by_cases hso : SOk l
 ·rw [decide_eq_true hso] at c1
  have hco := hso.col
  have c2 := fun wx hx hb => implHowMany l (.slice A l.length cap) wx B hx (by have := hco.1; omega) (fun x hx => by have := (hco.2 x hx).1; omega) hb
  have qC := cntS_le l (fun x hx => by have := (hco.2 x hx).1; omega) l.length (Nat.le_refl _)
  rw [List.take_length] at qC
  have hcl := hso.1
  have HOne : Hid (∀ j,j < l.length → 1 ≤ (l.getD j default).pts.length ∧ (l.getD j default).pts.length ≤ 60) := fun j hj => ⟨(hso.2 j hj).2.1,(hso.2 j hj).2.2.1⟩
  have HBad : Hid (∀ j,j < l.length → tAt (l.getD j default).pts 0 < f → decide (CaOk l f) = false) := fun j hj h => decide_eq_false fun hok => by
   have := hok.2.2 _ (getD_mem _ j hj)
   omega
  have HGood : Hid (cntS l ≤ 40 → (∀ j,j < l.length → f ≤ tAt (l.getD j default).pts 0) → decide (CaOk l f) = true) := fun h40 h => decide_eq_true ⟨hso,h40,fun x hx => by
   obtain ⟨j,hj,rfl⟩ := List.getElem_of_mem hx
   rw [getD_at _ j hj]
   exact h j hj⟩
  have HMany : Hid (40 < cntS l → decide (CaOk l f) = false) := fun h => decide_eq_false fun hok => by have := hok.2.1; omega
  have q1 : (l.length : Int) ≤ 5 := by omega
  have q2 : (cntS l : Int) ≤ 5000 := by omega
  clear hl hv hs hf hB hso hco
  go_enter Tryz.func149,Tryz.ntmps149
  go_wp2_with fail
  refine c1.mono ?_
  rintro b X1 ⟨rfl,hb1⟩
  have B1 := hQz hb1
  have c3 := c2 X1 (HV.out.on (hb1.mono HB.out)) (Nat.le_trans HB.out hb1.size)
  clear hb1 c2 c1
  go_wp2_with fail
  refine c3.mono ?_
  rintro b X2 ⟨rfl,hb2⟩
  have B2 := hQz (B1.out.trans (hb2.mono B1.out.size))
  clear hb2 c3
  generalize cntS l = cn at *
  generalize hn : l.length = n at *
  clear hn
  by_cases h4 : 40 < cn
  ·have q5 : (40 : Int) < (cn : Int) := by omega
   have HD := hQz (HMany.out h4)
   go_wp2_with fail
   go_ret
   exact ⟨by rw [HD.out]; rfl,B2.out⟩
  ·have q5 : ¬ (40 : Int) < (cn : Int) := by omega
   have H40 : Hid (cn ≤ 40) := by unfold Hid; omega
   clear h4
   go_wp2_with fail
   go_loopw [17] (fun v17 wr => ∃ i : Nat,i ≤ n ∧ v17 = .int .i64 (i : Int) ∧ Hid (∀ j,j < i → f ≤ tAt (l.getD j default).pts 0) ∧ Below w.heap.size w wr) (fun i _ => n - (intOf i).toNat)
   case atStart => exact ⟨0,by omega,rfl,fun j hj => by omega,B2.out⟩
   case round =>
    obtain ⟨i,hi,rfl,HI,hb⟩ := hrel
    have HBr := hQz hb
    clear hb
    by_cases hlt : i < n
    ·have q4 : (i : Int) < (n : Int) := by omega
     obtain ⟨g,off,u,rfl,hg,e1,e2,hu⟩ := HL.out wr HBr.out i hlt
     obtain ⟨A5,n5,c5,rfl⟩ : ∃ A5 n5 c5,u = .slice A5 n5 c5 := by obtain ⟨A5,c5,e,_⟩ := hu; exact ⟨_,_,_,e⟩
     obtain ⟨g5,o5,rfl,hg5,hn5,e5⟩ := first_at (HOne.out i hlt).1 hu
     have q7 := HOne.out i hlt
     rw [← hn5] at q7
     have q8 : (0 : Int) < (n5 : Int) := by omega
     have q9 : (n5 : Int) ≤ 60 := by omega
     have HBi := hQz (HBad.out i hlt)
     have HIn2 : Hid (f ≤ tAt (l.getD i default).pts 0 → ∀ j,j < i + 1 → f ≤ tAt (l.getD j default).pts 0) := fun h j hj => by
      by_cases e : j = i
      ·rw [e]; exact h
      ·exact HI.out j (by omega)
     clear hu hn5 q7
     generalize tAt (l.getD i default).pts 0 = t at *
     generalize (l.getD i default).key = xk at *
     have BA : Hid (Below w.heap.size w (wr.alloc (.cells #[.string xk,.slice (some ⟨g5,o5,none⟩) n5 c5] 101))) := HBr.out.alloc HBr.out.size _
     have e6 := cell_alloc_keep e5 (.cells #[.string xk,.slice (some ⟨g5,o5,none⟩) n5 c5] 101)
     by_cases hlow : t < f
     ·have HD := hQz (HBi.out hlow)
      go_wp2_with fail
      go_ret
      exact ⟨by rw [HD.out]; rfl,BA.out⟩
     ·have q10 : f ≤ t := by omega
      have HI2 := hQz (HIn2.out q10)
      go_wp2_with fail
      go_roundw
      case rel => exact ⟨i + 1,by omega,by go_num,HI2,BA.out⟩
      case measure => simp [intOf]; omega
    ·obtain rfl : i = n := by omega
     have HD := hQz (HGood.out H40.out HI.out)
     go_wp2_with fail
     go_ret
     exact ⟨by rw [HD.out]; rfl,HBr.out⟩
 ·rw [decide_eq_false hso] at c1
  have HD : Hid (decide (CaOk l f) = false) := decide_eq_false fun h => hso h.1
  clear hl hv hs hf hB hso
  go_enter Tryz.func149,Tryz.ntmps149
  go_wp2_with fail
  refine c1.mono ?_
  rintro b X1 ⟨rfl,hb1⟩
  have B1 := hQz hb1
  clear hb1 c1
  go_wp2_with fail
  go_ret
  exact ⟨by rw [HD.out]; rfl,B1.out⟩
set_option maxHeartbeats 2000000 in
theorem cachedKeys (l : List Ser) (v : Value) (w : World) (B : Nat) (hv : SerV w B v l) (hn : l.length ≤ 1000) (hB : B ≤ w.heap.size) :
  Calls Tryz.prog 260 #[v] w fun e w' => (∃ u,e = .returned u ∧ Owns w' w.heap.size 9 1 u (stR (l.map Ser.key))) ∧ Below w.heap.size w w' := by
 obtain ⟨A,cap,rfl,hl⟩ := hv.look
 have HL : Hid (∀ wx,Below w.heap.size w wx → ∀ j,j < l.length → ∃ g off u,A = some ⟨g,off,none⟩ ∧ g < B ∧ wx.cell? ⟨g,off + j * 2,none⟩ = some (.string (l.getD j default).key) ∧ wx.cell? ⟨g,off + j * 2 + 1,none⟩ = some u ∧ Lies wx B 2 u (ptR (l.getD j default).pts)) := fun wx hx => by
  obtain ⟨A',c',e',h⟩ := (hv.on (hx.mono hB)).look
  cases e'
  exact h
 have HT : Hid (∀ k,k < l.length → (l.take (k + 1)).map Ser.key = (l.take k).map Ser.key ++ [(l.getD k default).key]) := fun k hk => by rw [take_getD l k hk,List.map_append]; rfl
 have HA : Hid (∀ k,k = l.length → (l.take k).map Ser.key = l.map Ser.key) := fun k hk => by rw [hk,List.take_length]
 have q1 : (l.length : Int) ≤ 1000 := by omega
 have HLn : Hid (∀ k,k ≤ l.length → (stR ((l.take k).map Ser.key)).length ≤ 2097152) := fun k hk => by rw [stR_length,List.length_map,List.length_take]; omega
 clear hl hv hB
 generalize hN : l.length = n at *
 clear hN
 go_enter Tryz.func260,Tryz.ntmps260
 go_wp2_with fail
 go_loopw [3,8] (fun v3 v8 wr => ∃ k : Nat,k ≤ n ∧ v8 = .int .i64 (k : Int) ∧ Owns wr w.heap.size 9 1 v3 (stR ((l.take k).map Ser.key)) ∧ Below w.heap.size w wr) (fun _ i _ => n - (intOf i).toNat)
 case atStart => exact ⟨0,by omega,rfl,Owns.nil _ _ _ _,Below.refl _ _⟩
 case round =>
  obtain ⟨k,hk,rfl,hO,hb⟩ := hrel
  have HO := hQz hO
  have HBr := hQz hb
  obtain ⟨A3,n3,c3,rfl⟩ := hO.shape
  clear hO hb
  by_cases hlt : k < n
  ·have q4 : (k : Int) < (n : Int) := by omega
   obtain ⟨g,off,u,rfl,hg,e1,e2,hu⟩ := HL.out wr HBr.out k hlt
   obtain ⟨A',c',rfl,_⟩ := pt_look hu
   have HE := hQz (HT.out k hlt)
   have L2 := HLn.out k hk
   clear hu
   generalize (l.take k).map Ser.key = o at *
   generalize (l.getD k default).pts.length = pl at *
   generalize (l.getD k default).key = xk at *
   have HO2 : Hid (Owns (wr.alloc (.cells #[.string xk,.slice A' pl c'] 101)) w.heap.size 9 1 (.slice A3 n3 c3) (stR o)) := HO.out.alloc _
   have BA : Hid (Below w.heap.size w (wr.alloc (.cells #[.string xk,.slice A' pl c'] 101))) := HBr.out.alloc HBr.out.size _
   have Z : w.heap.size ≤ (wr.alloc (.cells #[.string xk,.slice A' pl c'] 101)).heap.size := BA.out.size
   have LL : Hid ((stR o).length ≤ 2097152) := L2
   clear L2
   go_wp2_with (at_builtin; refine Shut.out ?_)
   unfold Shut
   refine wpList_append_row (w := wr.alloc (.cells #[.string xk,.slice A' pl c'] 101)) rfl (.tmp 12) (.tmp 15) 24 9 (.string ⟨#[]⟩) 1 16 rfl Tryz.underlying24 infoStr rfl (by omega) w.heap.size (.slice A3 n3 c3) (stR o) rfl HO2.out [.string xk] rfl (st_cell xk) (by rw [World.size_alloc]; rfl) LL.out (by omega) Z ?_
   intro v' w2 hO2 hb2 hk2 hw2
   obtain ⟨A2,n2,c2,rfl⟩ := hO2.shape
   have O2 : Hid (Owns w2 w.heap.size 9 1 (.slice A2 n2 c2) (stR (o ++ [xk]))) := by unfold Hid; rw [stR_append]; exact hO2
   have B2 := hQz (BA.out.trans hb2)
   clear hO2 hb2 hk2 hw2
   go_wp2_with fail
   go_roundw
   case rel => exact ⟨k + 1,by omega,by go_num,by rw [HE.out]; exact O2.out,B2.out⟩
   case measure => simp [intOf]; omega
  ·obtain rfl : k = n := by omega
   have HE := HA.out k rfl
   go_wp2_with fail
   go_ret
   refine ⟨⟨_,rfl,?_⟩,HBr.out⟩
   rw [← HE]
   exact HO.out
set_option maxHeartbeats 1000000 in
theorem cachedPoints (l : List Ser) (key : ByteArray) (v : Value) (w : World) (B : Nat) (hv : SerV w B v l) (hn : l.length ≤ 1048576) (hB : B ≤ w.heap.size) :
  Calls Tryz.prog 261 #[v,.string key] w fun e w' => (∃ u,e = .returned u ∧ Lies w' B 2 u (ptR (ptsAt l key))) ∧ Below w.heap.size w w' := by
 have HV : Hid (SerV w B v l) := hv
 obtain ⟨A,cap,rfl,hl⟩ := hv.look
 have HL : Hid (∀ wx,Below w.heap.size w wx → ∀ j,j < l.length → ∃ g off u,A = some ⟨g,off,none⟩ ∧ g < B ∧ wx.cell? ⟨g,off + j * 2,none⟩ = some (.string (l.getD j default).key) ∧ wx.cell? ⟨g,off + j * 2 + 1,none⟩ = some u ∧ Lies wx B 2 u (ptR (l.getD j default).pts)) := fun wx hx => by
  obtain ⟨A',c',e',h⟩ := (hv.on (hx.mono hB)).look
  cases e'
  exact h
 have HB : Hid (B ≤ w.heap.size) := hB
 have q1 : (l.length : Int) ≤ 1048576 := by omega
 clear hl hv hn hB
 generalize hN : l.length = n at *
 have HN : Hid (l.length = n) := hN
 clear hN
 go_enter Tryz.func261,Tryz.ntmps261
 go_wp2_with fail
 go_loopw [9] (fun v9 wr => ∃ k : Nat,k ≤ n ∧ v9 = .int .i64 (k : Int) ∧ Hid (∀ i,i < k → (l.getD i default).key ≠ key) ∧ Below w.heap.size w wr) (fun i _ => n - (intOf i).toNat)
 case atStart => exact ⟨0,by omega,rfl,fun i hi => by omega,Below.refl _ _⟩
 case round =>
  obtain ⟨k,hk,rfl,HJ,hb⟩ := hrel
  have HBr := hQz hb
  clear hb
  by_cases hlt : k < n
  ·have q4 : (k : Int) < (n : Int) := by omega
   obtain ⟨g,off,u,rfl,hg,e1,e2,hu⟩ := HL.out wr HBr.out k hlt
   have HU : Hid (Lies wr B 2 u (ptR (l.getD k default).pts)) := hu
   obtain ⟨A5,n5,c5,rfl⟩ : ∃ A5 n5 c5,u = .slice A5 n5 c5 := by obtain ⟨A5,c5,e,_⟩ := hu; exact ⟨_,_,_,e⟩
   clear hu
   by_cases hkey : (l.getD k default).key = key
   ·have HF : Hid (ptsAt l key = (l.getD k default).pts) := ptsAt_at (by rw [HN.out]; exact hlt) hkey HJ.out
    rw [hkey] at e1
    clear hkey
    have BA : Hid (Below w.heap.size w (wr.alloc (.cells #[.string key,.slice A5 n5 c5] 101))) := HBr.out.alloc HBr.out.size _
    have UA : Hid (Lies (wr.alloc (.cells #[.string key,.slice A5 n5 c5] 101)) B 2 (.slice A5 n5 c5) (ptR (ptsAt l key))) := by
     unfold Hid
     rw [HF.out]
     exact HU.out.on ((Below.refl B wr).alloc (Nat.le_trans HB.out HBr.out.size) _)
    go_wp2_with fail
    go_ret
    exact ⟨⟨_,rfl,UA.out⟩,BA.out⟩
   ·have HK : Hid ((l.getD k default).key ≠ key) := hkey
    have hne := bytes_ne hkey
    clear hkey
    have HJ2 : Hid (∀ i,i < k + 1 → (l.getD i default).key ≠ key) := fun i hi => by
     by_cases e : i = k
     ·rw [e]; exact HK.out
     ·exact HJ.out i (by omega)
    clear HK
    generalize (l.getD k default).key = xk at e1 hne
    have BA : Hid (Below w.heap.size w (wr.alloc (.cells #[.string xk,.slice A5 n5 c5] 101))) := HBr.out.alloc HBr.out.size _
    go_wp2_with fail
    go_roundw
    case rel => exact ⟨k + 1,by omega,by go_num,HJ2,BA.out⟩
    case measure => simp [intOf]; omega
  ·obtain rfl : k = n := by omega
   have HF : Hid (ptsAt l key = []) := ptsAt_none fun x hx => by
    obtain ⟨j,hj,rfl⟩ := List.getElem_of_mem hx
    rw [getD_at l j hj]
    exact HJ.out j (by rw [← HN.out]; exact hj)
   go_wp2_with fail
   go_ret
   refine ⟨⟨_,rfl,?_⟩,HBr.out⟩
   rw [HF.out]
   exact ⟨none,0,rfl,⟨fun _ => rfl,Nat.le_refl _⟩,fun r hr => (by cases hr),.inl rfl⟩
end Go.Proofs.YthhamlahdjokkaaGreatDoor
namespace Go.Proofs.YthhamlahdjokkaaGreatDoor
open Go.ChangeShapes Go.WideShapes Go.ChangeAt Go.RowKit Go.PlainAid
set_option linter.unusedVariables false
def FfAns (s key : ByteArray) (l : List Pnt) (ok : Bool) : Prop := (ok = true ∧ ∃ m j,GoodF s m ∧ j < m.length ∧ (sAt m j).key = key ∧ (∀ i,i < j → (sAt m i).key ≠ key) ∧ l = (sAt m j).pts) ∨ (ok = false ∧ l = [] ∧ ∀ m,GoodF s m → ∀ j,j < m.length → (sAt m j).key ≠ key)
def FfOk (s key : ByteArray) (w' : World) (b : Nat) (e : Ending) : Prop := ∃ v l ok,e = .returned (.tuple #[v,.bool ok]) ∧ FfAns s key l ok ∧ Owns w' b 98 2 v (ptR l)
end Go.Proofs.YthhamlahdjokkaaGreatDoor
namespace Go.Proofs.YthhamlahdjokkaaGreatDoor
open Go.ChangeShapes Go.WideShapes Go.ChangeAt Go.RowKit Go.PlainAid
set_option linter.unusedVariables false
def IxI (s : ByteArray) (P : List Spot) : Prop := (∃ m,GoodF s m ∧ P = (List.range m.length).map (spotOf m)) ∨ ((∀ m,¬ GoodF s m) ∧ P = [])
set_option maxHeartbeats 2000000 in
theorem indexOfV (s : ByteArray) (w : World) (hs : s.size ≤ 1048576) (hst : SumTab w) (a0 a1 a2 : Addr) (he : Errs w a0 a1 a2) : Calls Tryz.prog 150 #[.string s] w fun e w' => (∃ v P,e = .returned v ∧ IxI s P ∧ Owns w' w.heap.size 127 5 v (spR P)) ∧ Below w.heap.size w w' := by
 have HS : Hid (s.size ≤ 1048576) := hs
 have c1 := implReadFile s w hs hst a0 a1 a2 he
 clear hs hst he
 go_enter Tryz.func150,Tryz.ntmps150
 go_wp2_with fail
 refine c1.mono ?_
 rintro e X1 ⟨⟨u1,L1,ok1,hR,rfl,_⟩,hb⟩
 have HR : Hid (RfAns s (L1.map Prod.fst) ok1) := hR
 have B1 := hQz hb
 clear hR hb c1
 cases ok1 with
 | false =>
  have HN : Hid (IxI s []) := by
   rcases HR.out with ⟨h,_⟩ | ⟨_,_,h⟩
   ·cases h
   ·exact .inr ⟨h,rfl⟩
  go_wp2_with fail
  go_ret
  exact ⟨⟨_,[],rfl,HN.out,Owns.nil _ _ _ _⟩,B1.out⟩
 | true =>
 have HY : Hid (IxI s (spots s)) := by
  rcases HR.out with ⟨_,h⟩ | ⟨h,_⟩
  ·exact .inl ⟨_,h,h.read.2⟩
  ·cases h
 have C0 : Hid (CurB (X1.alloc (.cells #[.string s,.int .i64 0] 231)) X1.heap.size s 0 231) := Blk.new X1 _ _
 have B0 : Hid (Below w.heap.size w (X1.alloc (.cells #[.string s,.int .i64 0] 231))) := B1.out.alloc B1.out.size _
 go_wp2_with fail
 refine (readerOfV s X1).mono ?_
 rintro e W1 ⟨rfl,hW1⟩
 rw [← hW1] at C0 B0
 clear hW1
 go_wp2_with fail
 refine (readIndexV s 0 X1.heap.size W1 C0.out HS.out).mono ?_
 rintro e X2 ⟨⟨u2,rfl,hO⟩,_,hk⟩
 have B2 : Hid (Below w.heap.size w X2) := B0.out.trans (hk.1.mono B1.out.size)
 have O2 := hQz (hO.mono B0.out.size)
 clear hO hk
 go_wp2_with fail
 go_ret
 exact ⟨⟨_,_,rfl,HY.out,O2.out⟩,B2.out⟩
end Go.Proofs.YthhamlahdjokkaaGreatDoor
namespace Go.Proofs.YthhamlahdjokkaaGreatDoor
open Go.ChangeShapes Go.WideShapes Go.ChangeAt Go.RowKit Go.PlainAid
set_option linter.unusedVariables false
set_option maxHeartbeats 4000000 in
theorem findBlockV (s key : ByteArray) (P : List Spot) (v : Value) (w : World) (BB : Nat) (hI : IxI s P) (hO : Lies w BB 5 v (spR P)) (hBB : BB ≤ w.heap.size) (hs : s.size ≤ 1048576) (hst : SumTab w) (a0 a1 a2 : Addr) (he : Errs w a0 a1 a2) : Calls Tryz.prog 259 #[.string s,v,.string key] w fun e w' => FfOk s key w' w.heap.size e ∧ Below w.heap.size w w' := by
 have HS : Hid (s.size ≤ 1048576) := hs
 have ST := hQz hst
 have ER := hQz he
 clear hs hst he
 obtain ⟨X1,hX1⟩ : ∃ X1,X1 = w := ⟨_,rfl⟩
 rw [← hX1] at hO
 have HX1 : Hid (X1 = w) := hX1
 have B1 : Hid (Below w.heap.size w X1) := by unfold Hid; rw [hX1]; exact Below.refl _ _
 obtain ⟨A,c,rfl,hl⟩ := sp_look (hO.mono (show BB ≤ X1.heap.size by rw [hX1]; exact hBB))
 clear hX1
 have HIx : Hid (IxI s P) := hI
 have HNm : Hid (∀ m,GoodF s m → P = (List.range m.length).map (spotOf m)) := fun m hm => by
  rcases hI with ⟨m',h1,h2⟩ | ⟨h1,_⟩
  ·obtain rfl := hm.one h1
   exact h2
  ·exact absurd hm (h1 m)
 have HSo : Hid (1 ≤ P.length → ∃ m,GoodF s m) := fun h => by
  rcases hI with ⟨m',h1,h2⟩ | ⟨_,h2⟩
  ·exact ⟨m',h1⟩
  ·rw [h2] at h
   simp at h
 have HN5 : Hid (P.length ≤ 5) := by
  unfold Hid
  rcases hI with ⟨m',h1,h2⟩ | ⟨_,h2⟩
  ·rw [h2,List.length_map,List.length_range]
   exact h1.2.1.1
  ·rw [h2]
   simp
 have q1 : (P.length : Int) ≤ 5 := by have := HN5.out; omega
 have HL : Hid (∀ j,j < P.length → ∃ g off,A = some ⟨g,off,none⟩ ∧ g < X1.heap.size ∧
  X1.cell? ⟨g,off + j * 5,none⟩ = some (.string (P.getD j default).key) ∧ X1.cell? ⟨g,off + j * 5 + 1,none⟩ = some (.int .i64 ((P.getD j default).at' : Int)) ∧ X1.cell? ⟨g,off + j * 5 + 2,none⟩ = some (.int .i64 ((P.getD j default).size : Int)) ∧
  X1.cell? ⟨g,off + j * 5 + 3,none⟩ = some (.int .i64 ((P.getD j default).first : Int)) ∧ X1.cell? ⟨g,off + j * 5 + 4,none⟩ = some (.int .i64 ((P.getD j default).last : Int))) := hl
 clear hI hO hl hBB
 generalize hn : P.length = n at *
 have HN : Hid (P.length = n) := hn
 clear hn
 obtain rfl : w = X1 := HX1.out.symm
 go_enter Tryz.func259,Tryz.ntmps259
 go_wp2_with fail
 go_loopw [12] (fun v12 wr => ∃ k : Nat,k ≤ n ∧ v12 = .int .i64 (k : Int) ∧ Hid (∀ i,i < k → (P.getD i default).key ≠ key) ∧ Below w.heap.size w wr) (fun i _ => n - (intOf i).toNat)
 case atStart => exact ⟨0,by omega,rfl,fun i hi => by omega,Below.refl _ _⟩
 case round =>
  obtain ⟨k,hk,rfl,HJ,hb⟩ := hrel
  have HB := hQz hb
  clear hb
  by_cases hlt : k < n
  ·have q4 : (k : Int) < (n : Int) := by omega
   obtain ⟨g,off,rfl,hg,e0,e1,e2,e3,e4⟩ := HL.out k hlt
   rw [← HB.out.cell (p := ⟨_,_,none⟩) hg] at e0 e1 e2 e3 e4
   obtain ⟨m,hm⟩ := HSo.out (by omega)
   have hPm := HNm.out m hm
   have hln : m.length = n := by rw [← HN.out,hPm,List.length_map,List.length_range]
   have HAt : Hid (∀ i,i < n → P.getD i default = spotOf m i) := fun i hi => by rw [hPm]; exact range_get m m.length i (by rw [hln]; exact hi)
   have HMg : Hid (GoodF s m ∧ m.length = n) := ⟨hm,hln⟩
   have HX := hQz (HAt.out k hlt)
   have HFit : Hid ((P.getD k default).at' ≤ 562949953421311 ∧ (P.getD k default).size ≤ 562949953421311) := by
    unfold Hid
    rw [HX.out]
    have := nums_le hm.2.1 k (by omega)
    exact ⟨this.2.1,this.2.2.1⟩
   have HBk : Hid (rbP (blkA s (P.getD k default)) = (sAt m k).pts ∧ (P.getD k default).key = (sAt m k).key) := by
    unfold Hid
    rw [HX.out]
    refine ⟨?_,rfl⟩
    have := ser_read hm.2.1 k (by omega)
    rw [← hm.text] at this
    exact congrArg Ser.pts this
   have BW := hQz (B1.out.trans (HB.out.mono B1.out.size))
   clear hPm hln hm HX
   generalize hx : P.getD k default = x at *
   have HXk : Hid (P.getD k default = x) := hx
   clear hx hg
   obtain ⟨xk,xa,xz,xf,xl⟩ := x
   simp only at e0 e1 e2 e3 e4 HFit HBk
   have HBa : Hid (∀ cs,Below w.heap.size w (wr.alloc (.cells cs 127))) := fun cs => HB.out.alloc HB.out.size _
   by_cases hkey : xk = key
   ·have HF : Hid (FfAns s key (sAt m k).pts true) := by
     refine .inl ⟨rfl,m,k,HMg.out.1,by rw [HMg.out.2]; exact hlt,by rw [← HBk.out.2]; exact hkey,fun i hi => ?_,rfl⟩
     have h1 := HJ.out i hi
     rw [HAt.out i (by omega)] at h1
     exact h1
    subst hkey
    have KB0 : Hid (Blk (wr.alloc (.cells #[.string xk,.int .i64 (xa : Int),.int .i64 (xz : Int),.int .i64 (xf : Int),.int .i64 (xl : Int)] 127)).drew wr.heap.size #[.string xk,.int .i64 (xa : Int),.int .i64 (xz : Int),.int .i64 (xf : Int),.int .i64 (xl : Int)] 127) := Blk.new wr _ _
    have BB0 : Hid (Below w.heap.size w (wr.alloc (.cells #[.string xk,.int .i64 (xa : Int),.int .i64 (xz : Int),.int .i64 (xf : Int),.int .i64 (xl : Int)] 127)).drew) := (BW.out.alloc BW.out.size _).drew
    have S0 : Hid ((wr.alloc (.cells #[.string xk,.int .i64 (xa : Int),.int .i64 (xz : Int),.int .i64 (xf : Int),.int .i64 (xl : Int)] 127)).drew.cell? ⟨wr.heap.size,0,none⟩ = some (.string xk) ∧ (wr.alloc (.cells #[.string xk,.int .i64 (xa : Int),.int .i64 (xz : Int),.int .i64 (xf : Int),.int .i64 (xl : Int)] 127)).drew.cell? ⟨wr.heap.size,1,none⟩ = some (.int .i64 (xa : Int)) ∧ (wr.alloc (.cells #[.string xk,.int .i64 (xa : Int),.int .i64 (xz : Int),.int .i64 (xf : Int),.int .i64 (xl : Int)] 127)).drew.cell? ⟨wr.heap.size,2,none⟩ = some (.int .i64 (xz : Int)) ∧ (wr.alloc (.cells #[.string xk,.int .i64 (xa : Int),.int .i64 (xz : Int),.int .i64 (xf : Int),.int .i64 (xl : Int)] 127)).drew.cell? ⟨wr.heap.size,3,none⟩ = some (.int .i64 (xf : Int)) ∧ (wr.alloc (.cells #[.string xk,.int .i64 (xa : Int),.int .i64 (xz : Int),.int .i64 (xf : Int),.int .i64 (xl : Int)] 127)).drew.cell? ⟨wr.heap.size,4,none⟩ = some (.int .i64 (xl : Int))) := ⟨KB0.out.cell 0 _ rfl,KB0.out.cell 1 _ rfl,KB0.out.cell 2 _ rfl,KB0.out.cell 3 _ rfl,KB0.out.cell 4 _ rfl⟩
    have cR := readerOfV s (wr.alloc (.cells #[.string xk,.int .i64 (xa : Int),.int .i64 (xz : Int),.int .i64 (xf : Int),.int .i64 (xl : Int)] 127)).drew
    go_wp2_with fail
    refine wp_region_until (fun w' => w'.cell? ⟨wr.heap.size,0,none⟩ = some (.string xk) ∧ w'.cell? ⟨wr.heap.size,1,none⟩ = some (.int .i64 (xa : Int)) ∧ w'.cell? ⟨wr.heap.size,2,none⟩ = some (.int .i64 (xz : Int)) ∧ w'.cell? ⟨wr.heap.size,3,none⟩ = some (.int .i64 (xf : Int)) ∧ w'.cell? ⟨wr.heap.size,4,none⟩ = some (.int .i64 (xl : Int))) (fun _ => false) 6 (by rfl) (by kernel_rfl) ?_
    refine tKf 0 S0.out ?_
    refine tKf 2 S0.out ?_
    refine uNe 1 (fun K hK => ?_)
    go_simp
    refine cR.mono ?_
    rintro e Y1 ⟨rfl,hY1⟩
    have C1 : Hid (CurB Y1 (wr.alloc (.cells #[.string xk,.int .i64 (xa : Int),.int .i64 (xz : Int),.int .i64 (xf : Int),.int .i64 (xl : Int)] 127)).drew.heap.size s 0 231) := by rw [hY1]; exact Blk.new _ _ _
    have KB1 : Hid (Blk Y1 wr.heap.size #[.string xk,.int .i64 (xa : Int),.int .i64 (xz : Int),.int .i64 (xf : Int),.int .i64 (xl : Int)] 127) := by rw [hY1]; exact KB0.out.alloc _
    have BB1 : Hid (Below w.heap.size w Y1) := by rw [hY1]; exact BB0.out.alloc BB0.out.size _
    have GG : Hid (w.heap.size ≤ (wr.alloc (.cells #[.string xk,.int .i64 (xa : Int),.int .i64 (xz : Int),.int .i64 (xf : Int),.int .i64 (xl : Int)] 127)).drew.heap.size ∧ wr.heap.size ≠ (wr.alloc (.cells #[.string xk,.int .i64 (xa : Int),.int .i64 (xz : Int),.int .i64 (xf : Int),.int .i64 (xl : Int)] 127)).drew.heap.size) := ⟨BB0.out.size,by have := KB0.out.lt; omega⟩
    generalize (wr.alloc (.cells #[.string xk,.int .i64 (xa : Int),.int .i64 (xz : Int),.int .i64 (xf : Int),.int .i64 (xl : Int)] 127)).drew.heap.size = gr at *
    clear hY1 cR BB0 KB0
    go_wp2_with fail
    refine hK.out _ _ (fun _ _ => ⟨KB1.out.cell 0 _ rfl,KB1.out.cell 1 _ rfl,KB1.out.cell 2 _ rfl,KB1.out.cell 3 _ rfl,KB1.out.cell 4 _ rfl⟩) ?_
    clear hK K
    try simp only [Act.put,zQ1,zQ2,zQ3]
    refine uNe 3 (fun K hK => ?_)
    go_simp
    refine (readBlockV s 0 gr ⟨xk,xa,xz,xf,xl⟩ Y1 w C1.out HS.out HFit.out BB1.out GG.out.1 ST.out a0 a1 a2 ER.out).mono ?_
    rintro e Y2 ⟨⟨v2,rfl,hO2⟩,_,hk2⟩
    rw [HBk.out.1] at hO2
    have KB2 : Hid (Blk Y2 wr.heap.size #[.string xk,.int .i64 (xa : Int),.int .i64 (xz : Int),.int .i64 (xf : Int),.int .i64 (xl : Int)] 127) := hk2.blk KB1.out GG.out.2
    have BB2 : Hid (Below w.heap.size w Y2) := BB1.out.trans (hk2.1.mono GG.out.1)
    have O2 := hQz (hO2.mono BB1.out.size)
    clear hk2 hO2
    go_wp2_with fail
    refine hK.out _ _ (fun _ _ => ⟨KB2.out.cell 0 _ rfl,KB2.out.cell 1 _ rfl,KB2.out.cell 2 _ rfl,KB2.out.cell 3 _ rfl,KB2.out.cell 4 _ rfl⟩) ?_
    clear hK K
    try simp only [Act.put,zQ1,zQ2,zQ3]
    refine pUf 4 ?_
    refine pUf 5 ?_
    refine until_done (by kernel_rfl) ?_ _
    go_wp2_with fail
    refine bodyPost_ret (results_tmp2 rfl _ _ _) rfl ?_
    exact ⟨⟨_,_,true,rfl,HF.out,O2.out⟩,BB2.out⟩
   ·have HKn : Hid (xk ≠ key) := hkey
    have hne := bytes_ne hkey
    clear hkey
    go_wp2_with fail
    go_roundw
    case rel =>
     refine ⟨k + 1,by omega,by go_num,fun i hi => ?_,HBa.out _⟩
     by_cases e : i = k
     ·rw [e,HXk.out]; exact HKn.out
     ·exact HJ.out i (by omega)
    case measure => simp [intOf]; omega
  ·obtain rfl : k = n := by omega
   have BW := hQz (B1.out.trans (HB.out.mono B1.out.size))
   have HF : Hid (FfAns s key [] false) := by
    refine .inr ⟨rfl,rfl,fun m hm j hj => ?_⟩
    have hPm := HNm.out m hm
    have hln : m.length = k := by rw [← HN.out,hPm,List.length_map,List.length_range]
    have h1 := HJ.out j (by omega)
    rw [hPm,range_get m m.length j hj] at h1
    exact h1
   go_wp2_with fail
   refine bodyPost_ret (results_tmp2 rfl _ _ _) rfl ?_
   exact ⟨⟨_,[],false,rfl,HF.out,Owns.nil _ _ _ _⟩,BW.out⟩
theorem FfAns.pts {s key : ByteArray} {l : List Pnt} {ok : Bool} {m : List Ser} (h : FfAns s key l ok) (hm : GoodF s m) : l = ptsAt m key := by
 rcases h with ⟨_,m',j,h2,h3,h4,h5,h6⟩ | ⟨_,h2,h3⟩
 ·obtain rfl := hm.one h2
  rw [h6]
  exact (ptsAt_at h3 h4 h5).symm
 ·rw [h2,ptsAt_none]
  intro x hx e
  obtain ⟨j,hj,rfl⟩ := List.getElem_of_mem hx
  rw [getD_at m j hj] at e
  exact h3 m hm j hj e
def idxF (m : List Ser) : List Spot := (List.range m.length).map (spotOf m)
theorem idxF_keys (m : List Ser) : (idxF m).map Spot.key = m.map Ser.key := by
 unfold idxF
 rw [List.map_map]
 conv => rhs; rw [← range_at m]
 rw [List.map_map]
 rfl
theorem idxF_length (m : List Ser) : (idxF m).length = m.length := by simp [idxF]
set_option maxHeartbeats 2000000 in
theorem filedPoints (s key : ByteArray) (m : List Ser) (u : Value) (w : World) (B : Nat) (hm : GoodF s m) (hO : Lies w B 5 u (spR (idxF m))) (hB : B ≤ w.heap.size) (hs : s.size ≤ 1048576) (hst : SumTab w) (a0 a1 a2 : Addr) (he : Errs w a0 a1 a2) :
  Calls Tryz.prog 258 #[.agg #[.string s,u],.string key] w fun e w' => (∃ v,e = .returned v ∧ Owns w' w.heap.size 98 2 v (ptR (ptsAt m key))) ∧ Below w.heap.size w w' := by
 have HM : Hid (GoodF s m) := hm
 obtain ⟨A,c,rfl,_⟩ := sp_look hO
 rw [idxF_length] at hO ⊢
 generalize m.length = n at *
 obtain ⟨X0,hX0⟩ : ∃ X0,X0 = w.alloc (.cells #[.string s,.slice A n c] 191) := ⟨_,rfl⟩
 have BX : Hid (Below w.heap.size w X0) := by unfold Hid; rw [hX0]; exact (Below.refl _ w).alloc (Nat.le_refl _) _
 have c1 := findBlockV s key (idxF m) (.slice A n c) X0 B (.inl ⟨m,hm,rfl⟩) (hO.on (BX.out.mono hB)) (Nat.le_trans hB BX.out.size) hs (hst.on BX.out) a0 a1 a2 (he.on BX.out)
 clear hm hO hB hs hst he
 go_enter Tryz.func258,Tryz.ntmps258
 go_wp2_with fail
 rw [← hX0]
 clear hX0
 refine c1.mono ?_
 rintro e X1 ⟨⟨v,l,ok,rfl,hF,hO1⟩,hb1⟩
 have HF : Hid (l = ptsAt m key) := hF.pts HM.out
 have O1 : Hid (Owns X1 w.heap.size 98 2 v (ptR (ptsAt m key))) := by unfold Hid; rw [← HF.out]; exact hO1.mono BX.out.size
 have B1 := hQz (BX.out.trans (hb1.mono BX.out.size))
 clear hF hO1 hb1 c1 HF
 go_wp2_with fail
 go_ret
 exact ⟨⟨_,rfl,O1.out⟩,B1.out⟩
theorem sp_cells {w : World} {B n c : Nat} {A : Option Addr} {l : List Spot} (h : Lies w B 5 (.slice A n c) (spR l)) : ∀ j,j < l.length → ∃ g off,A = some ⟨g,off,none⟩ ∧ g < B ∧
  w.cell? ⟨g,off + j * 5,none⟩ = some (.string (l.getD j default).key) ∧ w.cell? ⟨g,off + j * 5 + 1,none⟩ = some (.int .i64 ((l.getD j default).at' : Int)) ∧ w.cell? ⟨g,off + j * 5 + 2,none⟩ = some (.int .i64 ((l.getD j default).size : Int)) ∧
  w.cell? ⟨g,off + j * 5 + 3,none⟩ = some (.int .i64 ((l.getD j default).first : Int)) ∧ w.cell? ⟨g,off + j * 5 + 4,none⟩ = some (.int .i64 ((l.getD j default).last : Int)) := by
 obtain ⟨A',c',e,hl⟩ := sp_look h
 cases e
 exact hl
set_option maxHeartbeats 2000000 in
theorem filedKeys (s : ByteArray) (l : List Spot) (u : Value) (w : World) (B : Nat) (hO : Lies w B 5 u (spR l)) (hn : l.length ≤ 1000) (hB : B ≤ w.heap.size) :
  Calls Tryz.prog 257 #[.agg #[.string s,u]] w fun e w' => (∃ v,e = .returned v ∧ Owns w' w.heap.size 9 1 v (stR (l.map Spot.key))) ∧ Below w.heap.size w w' := by
 obtain ⟨A,cap,rfl,_⟩ := sp_look hO
 have HL : Hid (∀ wx,Below w.heap.size w wx → ∀ j,j < l.length → ∃ g off,A = some ⟨g,off,none⟩ ∧ g < B ∧
  wx.cell? ⟨g,off + j * 5,none⟩ = some (.string (l.getD j default).key) ∧ wx.cell? ⟨g,off + j * 5 + 1,none⟩ = some (.int .i64 ((l.getD j default).at' : Int)) ∧ wx.cell? ⟨g,off + j * 5 + 2,none⟩ = some (.int .i64 ((l.getD j default).size : Int)) ∧
  wx.cell? ⟨g,off + j * 5 + 3,none⟩ = some (.int .i64 ((l.getD j default).first : Int)) ∧ wx.cell? ⟨g,off + j * 5 + 4,none⟩ = some (.int .i64 ((l.getD j default).last : Int))) := fun wx hx => sp_cells (hO.on (hx.mono hB))
 have HT : Hid (∀ k,k < l.length → (l.take (k + 1)).map Spot.key = (l.take k).map Spot.key ++ [(l.getD k default).key]) := fun k hk => by rw [take_getD l k hk,List.map_append]; rfl
 have HA : Hid (∀ k,k = l.length → (l.take k).map Spot.key = l.map Spot.key) := fun k hk => by rw [hk,List.take_length]
 have q1 : (l.length : Int) ≤ 1000 := by omega
 have HLn : Hid (∀ k,k ≤ l.length → (stR ((l.take k).map Spot.key)).length ≤ 2097152) := fun k hk => by rw [stR_length,List.length_map,List.length_take]; omega
 clear hO hB
 generalize hN : l.length = n at *
 clear hN
 obtain ⟨X0,hX0⟩ : ∃ X0,X0 = w.alloc (.cells #[.string s,.slice A n cap] 191) := ⟨_,rfl⟩
 have BX : Hid (Below w.heap.size w X0) := by unfold Hid; rw [hX0]; exact (Below.refl _ w).alloc (Nat.le_refl _) _
 go_enter Tryz.func257,Tryz.ntmps257
 go_wp2_with fail
 rw [← hX0]
 clear hX0
 go_loopw [3,9] (fun v3 v9 wr => ∃ k : Nat,k ≤ n ∧ v9 = .int .i64 (k : Int) ∧ Owns wr w.heap.size 9 1 v3 (stR ((l.take k).map Spot.key)) ∧ Below w.heap.size w wr) (fun _ i _ => n - (intOf i).toNat)
 case atStart => exact ⟨0,by omega,rfl,Owns.nil _ _ _ _,BX.out⟩
 case round =>
  obtain ⟨k,hk,rfl,hO,hb⟩ := hrel
  have HO := hQz hO
  have HBr := hQz hb
  obtain ⟨A3,n3,c3,rfl⟩ := hO.shape
  clear hO hb
  by_cases hlt : k < n
  ·have q4 : (k : Int) < (n : Int) := by omega
   obtain ⟨g,off,rfl,hg,e0,e1,e2,e3,e4⟩ := HL.out wr HBr.out k hlt
   have HE := hQz (HT.out k hlt)
   have L2 := HLn.out k hk
   generalize (l.take k).map Spot.key = o at *
   generalize l.getD k default = x at *
   obtain ⟨xk,xa,xz,xf,xl⟩ := x
   simp only at e0 e1 e2 e3 e4 HE
   obtain ⟨W1,hW1⟩ : ∃ W1,W1 = wr.alloc (.cells #[.string xk,.int .i64 (xa : Int),.int .i64 (xz : Int),.int .i64 (xf : Int),.int .i64 (xl : Int)] 127) := ⟨_,rfl⟩
   have HO2 : Hid (Owns (wr.alloc (.cells #[.string xk,.int .i64 (xa : Int),.int .i64 (xz : Int),.int .i64 (xf : Int),.int .i64 (xl : Int)] 127)) w.heap.size 9 1 (.slice A3 n3 c3) (stR o)) := HO.out.alloc _
   have BA : Hid (Below w.heap.size w (wr.alloc (.cells #[.string xk,.int .i64 (xa : Int),.int .i64 (xz : Int),.int .i64 (xf : Int),.int .i64 (xl : Int)] 127))) := HBr.out.alloc HBr.out.size _
   have Z : w.heap.size ≤ (wr.alloc (.cells #[.string xk,.int .i64 (xa : Int),.int .i64 (xz : Int),.int .i64 (xf : Int),.int .i64 (xl : Int)] 127)).heap.size := BA.out.size
   have LL : Hid ((stR o).length ≤ 2097152) := L2
   clear L2 hW1 W1
   go_wp2_with (at_builtin; refine Shut.out ?_)
   unfold Shut
   refine wpList_append_row (w := wr.alloc (.cells #[.string xk,.int .i64 (xa : Int),.int .i64 (xz : Int),.int .i64 (xf : Int),.int .i64 (xl : Int)] 127)) rfl (.tmp 13) (.tmp 16) 24 9 (.string ⟨#[]⟩) 1 16 rfl Tryz.underlying24 infoStr rfl (by omega) w.heap.size (.slice A3 n3 c3) (stR o) rfl HO2.out [.string xk] rfl (st_cell xk) (by rw [World.size_alloc]; rfl) LL.out (by omega) Z ?_
   intro v' w2 hO2 hb2 hk2 hw2
   obtain ⟨A2,n2,c2,rfl⟩ := hO2.shape
   have O2 : Hid (Owns w2 w.heap.size 9 1 (.slice A2 n2 c2) (stR (o ++ [xk]))) := by unfold Hid; rw [stR_append]; exact hO2
   have B2 := hQz (BA.out.trans hb2)
   clear hO2 hb2 hk2 hw2
   go_wp2_with fail
   go_roundw
   case rel => exact ⟨k + 1,by omega,by go_num,by rw [HE.out]; exact O2.out,B2.out⟩
   case measure => simp [intOf]; omega
  ·obtain rfl : k = n := by omega
   have HE := hQz (HA.out k rfl)
   go_wp2_with fail
   go_ret
   refine ⟨⟨_,rfl,?_⟩,HBr.out⟩
   rw [← HE.out]
   exact HO.out
end Go.Proofs.YthhamlahdjokkaaGreatDoor
namespace Go.Proofs
open Go.Shelf
def Tryz.sortN_ren : Go.Shelf.Ren := ⟨fun | 6 => 175 | 8 => 199 | 9 => 198 | 19 => 217 | 20 => 218 | 21 => 208 | 22 => 209 | 23 => 210 | 24 => 211 | 25 => 212 | 26 => 213 | 27 => 214 | 28 => 215 | 29 => 216 | 36 => 224 | 31 => 225 | 32 => 226 | 37 => 227 | 38 => 228 | 39 => 229 | 41 => 235 | n => n,fun | 27 => 24 | 29 => 9 | 3 => 3 | 32 => 223 | 26 => 24 | 0 => 0 | 44 => 170 | 46 => 247 | 4 => 4 | 36 => 239 | 35 => 238 | 41 => 200 | 5 => 5 | 9 => 9 | 53 => 250 | 57 => 254 | 63 => 260 | 64 => 173 | n => n,fun | n => n⟩
theorem Tryz.sortN : Go.Proofs.SlLaysM.n6 Tryz.prog Tryz.sortN_ren := {
 mixed := by kernel_rfl
 f6 := ⟨Tryz.f175.name,by decide,Tryz.func175.trans (congrArg some (by kernel_rfl))⟩
 f8 := Tryz.func199.trans (congrArg some (by kernel_rfl))
 f9 := ⟨Tryz.f198.name,by decide,Tryz.func198.trans (congrArg some (by kernel_rfl))⟩
 f19 := Tryz.func217.trans (congrArg some (by kernel_rfl))
 f20 := Tryz.func218.trans (congrArg some (by kernel_rfl))
 f21 := ⟨Tryz.f208.name,by decide,Tryz.func208.trans (congrArg some (by kernel_rfl))⟩
 f22 := ⟨Tryz.f209.name,by decide,Tryz.func209.trans (congrArg some (by kernel_rfl))⟩
 f23 := ⟨Tryz.f210.name,by decide,Tryz.func210.trans (congrArg some (by kernel_rfl))⟩
 f24 := ⟨Tryz.f211.name,by decide,Tryz.func211.trans (congrArg some (by kernel_rfl))⟩
 f25 := ⟨Tryz.f212.name,by decide,Tryz.func212.trans (congrArg some (by kernel_rfl))⟩
 f26 := ⟨Tryz.f213.name,by decide,Tryz.func213.trans (congrArg some (by kernel_rfl))⟩
 f27 := ⟨Tryz.f214.name,by decide,Tryz.func214.trans (congrArg some (by kernel_rfl))⟩
 f28 := ⟨Tryz.f215.name,by decide,Tryz.func215.trans (congrArg some (by kernel_rfl))⟩
 f29 := ⟨Tryz.f216.name,by decide,Tryz.func216.trans (congrArg some (by kernel_rfl))⟩
 f31 := Tryz.func225.trans (congrArg some (by kernel_rfl))
 f32 := Tryz.func226.trans (congrArg some (by kernel_rfl))
 f36 := ⟨Tryz.f224.name,by decide,Tryz.func224.trans (congrArg some (by kernel_rfl))⟩
 f37 := ⟨Tryz.f227.name,by decide,Tryz.func227.trans (congrArg some (by kernel_rfl))⟩
 f38 := ⟨Tryz.f228.name,by decide,Tryz.func228.trans (congrArg some (by kernel_rfl))⟩
 f39 := ⟨Tryz.f229.name,by decide,Tryz.func229.trans (congrArg some (by kernel_rfl))⟩
 f41 := ⟨Tryz.f235.name,by decide,Tryz.func235.trans (congrArg some (by kernel_rfl))⟩
 t0 := Tryz.underlying0
 a0 := Tryz.isAgg0
 z0 := Tryz.sizeOf0
 v0 := Tryz.zeroValue0
 t3 := Tryz.underlying3
 a3 := Tryz.isAgg3
 z3 := Tryz.sizeOf3
 v3 := Tryz.zeroValue3
 t4 := Tryz.underlying4
 a4 := Tryz.isAgg4
 z4 := Tryz.sizeOf4
 v4 := Tryz.zeroValue4
 t5 := Tryz.underlying5
 a5 := Tryz.isAgg5
 z5 := Tryz.sizeOf5
 v5 := Tryz.zeroValue5
 t9 := Tryz.underlying9
 a9 := Tryz.isAgg9
 z9 := Tryz.sizeOf9
 v9 := Tryz.zeroValue9
 t26 := Tryz.underlying24
 a26 := Tryz.isAgg24
 z26 := Tryz.sizeOf24
 v26 := Tryz.zeroValue24
 t27 := Tryz.underlying24
 a27 := Tryz.isAgg24
 z27 := Tryz.sizeOf24
 v27 := Tryz.zeroValue24
 t29 := Tryz.underlying9
 a29 := Tryz.isAgg9
 z29 := Tryz.sizeOf9
 v29 := Tryz.zeroValue9
 t32 := Tryz.underlying223
 a32 := Tryz.isAgg223
 z32 := Tryz.sizeOf223
 v32 := Tryz.zeroValue223
 t35 := Tryz.underlying238
 a35 := Tryz.isAgg238
 z35 := Tryz.sizeOf238
 v35 := Tryz.zeroValue238
 t36 := Tryz.underlying239
 a36 := Tryz.isAgg239
 z36 := Tryz.sizeOf239
 v36 := Tryz.zeroValue239
 t41 := Tryz.underlying200
 a41 := Tryz.isAgg200
 z41 := Tryz.sizeOf200
 v41 := Tryz.zeroValue200
 t44 := Tryz.underlying170
 a44 := Tryz.isAgg170
 z44 := Tryz.sizeOf170
 v44 := Tryz.zeroValue170
 t46 := Tryz.underlying247
 a46 := Tryz.isAgg247
 z46 := Tryz.sizeOf247
 v46 := Tryz.zeroValue247
 t53 := Tryz.underlying250
 a53 := Tryz.isAgg250
 z53 := Tryz.sizeOf250
 v53 := Tryz.zeroValue250
 t57 := Tryz.underlying254
 a57 := Tryz.isAgg254
 z57 := Tryz.sizeOf254
 v57 := Tryz.zeroValue254
 t63 := Tryz.underlying260
 a63 := Tryz.isAgg260
 z63 := Tryz.sizeOf260
 v63 := Tryz.zeroValue260
 t64 := Tryz.underlying173
 a64 := Tryz.isAgg173
 z64 := Tryz.sizeOf173
 v64 := Tryz.zeroValue173 }
def Tryz.compactN_ren : Go.Shelf.Ren := ⟨fun | 44 => 176 | n => n,fun | 25 => 24 | 26 => 9 | 3 => 3 | 4 => 4 | 0 => 0 | n => n,fun | n => n⟩
theorem Tryz.compactN : Go.Proofs.SlLaysN.n44 Tryz.prog Tryz.compactN_ren := {
 mixed := by kernel_rfl
 f44 := ⟨Tryz.f176.name,by decide,Tryz.func176.trans (congrArg some (by kernel_rfl))⟩
 t0 := Tryz.underlying0
 a0 := Tryz.isAgg0
 z0 := Tryz.sizeOf0
 v0 := Tryz.zeroValue0
 t3 := Tryz.underlying3
 a3 := Tryz.isAgg3
 z3 := Tryz.sizeOf3
 v3 := Tryz.zeroValue3
 t4 := Tryz.underlying4
 a4 := Tryz.isAgg4
 z4 := Tryz.sizeOf4
 v4 := Tryz.zeroValue4
 t25 := Tryz.underlying24
 a25 := Tryz.isAgg24
 z25 := Tryz.sizeOf24
 v25 := Tryz.zeroValue24
 t26 := Tryz.underlying9
 a26 := Tryz.isAgg9
 z26 := Tryz.sizeOf9
 v26 := Tryz.zeroValue9
 i26 := by kernel_rfl }
def Tryz.cloneP_ren : Go.Shelf.Ren := ⟨fun | 41 => 169 | n => n,fun | 22 => 99 | 23 => 98 | 4 => 4 | n => n,fun | n => n⟩
theorem Tryz.cloneP : Go.Proofs.SlLaysE0.n41 Tryz.prog Tryz.cloneP_ren := {
 mixed := by kernel_rfl
 f41 := ⟨Tryz.f169.name,by decide,Tryz.func169.trans (congrArg some (by kernel_rfl))⟩
 t4 := Tryz.underlying4
 a4 := Tryz.isAgg4
 z4 := Tryz.sizeOf4
 v4 := Tryz.zeroValue4
 t22 := Tryz.underlying99
 a22 := Tryz.isAgg99
 z22 := Tryz.sizeOf99
 v22 := Tryz.zeroValue99 }
end Go.Proofs
