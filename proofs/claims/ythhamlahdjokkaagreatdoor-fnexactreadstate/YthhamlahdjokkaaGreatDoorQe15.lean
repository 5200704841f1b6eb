/- CmVars CmAnsS IgAid IgShowS IgRe0 -/
import Derived.Test.YthhamlahdjokkaaGreatDoorQe14
open List (setIfInBounds_toArray set_cons_zero set_cons_succ)
namespace Go.Proofs.YthhamlahdjokkaaGreatDoor
open Go.ChangeShapes Go.WideShapes Go.ChangeAt Go.RowKit Go.PlainAid
set_option linter.unusedVariables false
set_option maxHeartbeats 1000000 in
theorem specVars (s : ByteArray) (a k0 : Nat) (w : World) (hs : s.size ≤ 1048576) (ha : a ≤ 2097152) (h2 : k0 ≤ 60) :
  Calls Tryz.prog 86 #[.string s,.int .i64 (a : Int),.int .i64 (k0 : Int)] w fun e w' => ((∃ l n u,RdF s a k0 l n ∧ e = .returned (.tuple #[u,.int .i64 (n : Int)]) ∧ Nums w' w.heap.size u l) ∨ ((∀ l n,¬ RdF s a k0 l n) ∧ ∃ u,e = .returned (.tuple #[u,.int .i64 (-1)]))) ∧ Below w.heap.size w w' := by
 have q2 : (k0 : Int) ≤ 60 := by omega
 have HS : Hid (s.size ≤ 1048576) := hs
 have HA : Hid (a ≤ 2097152) := ha
 have q3 : (s.size : Int) ≤ 1048576 := by omega
 clear hs ha
 go_enter Tryz.func86,Tryz.ntmps86
 go_wp2_with fail
 go_loopw [1,8,9] (fun v1 v8 v9 wr => ∃ (k n : Nat) (l : List Int),k ≤ k0 ∧ v9 = .int .i64 (k : Int) ∧ v1 = .int .i64 (n : Int) ∧ Hid (RdF s a k l n) ∧ Nums wr w.heap.size v8 l ∧ Below w.heap.size w wr) (fun _ _ i _ => k0 - (intOf i).toNat)
 case atStart => exact ⟨0,a,[],by omega,rfl,rfl,⟨rfl,rfl⟩,Nums.empty _ _ (Nat.le_refl _),(Below.refl _ _).alloc (Nat.le_refl _) _⟩
 case round =>
  obtain ⟨k,n,l,hk,rfl,rfl,HR,hN,hb⟩ := hrel
  have HN := hQz hN
  obtain ⟨A,c,rfl,_,_⟩ := hN.shape
  have HB := hQz hb
  have hln := HR.out.length
  have HLN : Hid (l.length ≤ 2097152) := by unfold Hid; omega
  clear hN hb
  by_cases hlt : k < k0
  ·have q4 : (k : Int) < (k0 : Int) := by omega
   have hnb : (n : Int) ≤ 4194304 := by have := HR.out.le; have := HA.out; omega
   by_cases hns : n ≤ s.size
   ·have q5 : (n : Int) ≤ (s.size : Int) := by omega
    have q5' : decide ((s.size : Int) < (n : Int)) = false := decide_eq_false (by omega)
    have hsx : (lf s n).size ≤ 1048576 := by rw [lf_size]; have := HS.out; omega
    have c := fun wx => spec_readVar (lf s n) wx hsx
    have HX : Hid (∀ m,FindV (lf s n) m → m ≤ s.size - n) := fun m hm => by have := hm.2.2.1; rw [lf_size] at this; omega
    have HSX0 : Hid (s.extract n s.size = lf s n) := rfl
    unfold lf at c
    clear hsx hln
    go_wp2_with fail
    refine (c _).mono ?_
    rw [HSX0.out]
    clear c HSX0
    generalize hsx' : lf s n = sx at *
    have HSX : Hid (lf s n = sx) := hsx'
    clear hsx'
    rintro e w1 ⟨hR,hb1⟩
    have HB1 := hQz (HB.out.trans (hb1.mono HB.out.size))
    have HN1 := hQz (HN.out.on hb1)
    clear hb1
    rcases hR with ⟨m,hm,rfl⟩ | ⟨hno,rfl⟩
    ·have hmx := HX.out m hm
     have hm1 := hm.1
     have hm7 := hm.2.1
     have q6 : (m : Int) ≤ 7 := by omega
     have q7 : (1 : Int) ≤ (m : Int) := by omega
     have q8 : ¬ (m : Int) = 0 := by omega
     have q9 : ¬ m = 0 := by omega
     have HM : Hid (FindV sx m) := hm
     have HZ := hQz (HB1.out.size)
     generalize hz : (vvS sx 0 m : Int) = z at *
     have HR2 : Hid (RdF s a (k + 1) (l ++ [z]) (n + m)) := by
      refine ⟨l,n,m,HR.out,?_,?_,rfl⟩
      ·rw [HSX.out]; exact HM.out
      ·rw [HSX.out,hz]
     clear hz hm
     go_wp2_with (at_builtin; refine wpList_append_num rfl (.tmp 33) (.tmp 35) 132 rfl Tryz.underlying132 Tryz.infoInt w.heap.size _ l rfl HN1.out z rfl HLN.out HZ.out ?_; intro v' w2 hN2 hb2 hk2)
     go_roundw
     case rel => exact ⟨k + 1,n + m,l ++ [z],by omega,by go_num,by go_num,HR2,hN2,HB1.out.trans hb2⟩
     case measure => simp [intOf]; omega
    ·have HNO : Hid (∀ l n,¬ RdF s a k0 l n) := HR.out.no hlt (by rw [HSX.out]; exact hno)
     clear hno
     go_wp2_with fail
     go_ret2
     exact ⟨.inr ⟨HNO.out,_,rfl⟩,HB1.out⟩
   ·have q5 : decide ((s.size : Int) < (n : Int)) = true := decide_eq_true (by omega)
    have HNO : Hid (∀ l n,¬ RdF s a k0 l n) := HR.out.no hlt (fun m hm => by have h3 := hm.2.2.1; have h1 := hm.1; rw [lf_size] at h3; omega)
    clear hln
    go_wp2_with fail
    go_ret2
    exact ⟨.inr ⟨HNO.out,_,rfl⟩,HB.out⟩
  ·obtain rfl : k = k0 := by omega
   go_wp2_with fail
   go_ret2
   exact ⟨.inl ⟨l,n,_,HR.out,rfl,HN.out⟩,HB.out⟩
theorem ansOk_in {x : Ans} (h : ansOk x = true) : (0 ≤ x.code ∧ x.code ≤ 4) ∧ (0 ≤ x.index ∧ x.index ≤ 100000) ∧ (0 ≤ x.mark ∧ x.mark ≤ 1099511627776) ∧ x.data.size ≤ 900 := by
 unfold ansOk inRg at h
 simp only [Bool.and_eq_true,decide_eq_true_eq] at h
 omega
set_option maxHeartbeats 2000000 in
theorem specShowAnswer (x : Ans) (w : World) (hd : x.data.size ≤ maxLen) : Calls Tryz.prog 38 #[vAns x] w fun e w' => e = .returned (.string (ansT x)) ∧ Below w.heap.size w w' := by
 have c0 := fun wx => specAnswerOk x wx hd
 have hb0 := below_a1 w (.cells #[.int .i64 x.code,.int .i64 x.index,.int .i64 x.mark,.string x.data] 51)
 have k0 := Cell4.new w x 51
 cases ho : ansOk x
 ·have HT : Hid (ansT x = ⟨#[]⟩) := by unfold Hid ansT; rw [ho]; rfl
  rw [ho] at c0
  unfold vAns at *
  clear ho hd k0
  go_enter Tryz.func38,Tryz.ntmps38
  go_wp2_with fail
  generalize w.alloc (.cells #[.int .i64 x.code,.int .i64 x.index,.int .i64 x.mark,.string x.data] 51) = W at *
  refine (c0 _).mono ?_
  rintro e w1 ⟨rfl,hb1⟩
  have B1 := hQz (hb0.trans (hb1.mono hb0.size))
  clear hb0 hb1 c0
  go_wp2_with fail
  go_ret
  exact ⟨by rw [HT.out]; rfl,B1.out⟩
 obtain ⟨⟨a1,a2⟩,⟨a3,a4⟩,⟨a5,a6⟩,a7⟩ := ansOk_in ho
 have HT : Hid (ansT x = txt (vF 6 x.code.toNat) ++ txt (vF 6 x.index.toNat) ++ txt (vF 6 x.mark.toNat) ++ x.data) := by unfold Hid ansT; rw [if_pos ho]
 rw [ho] at c0
 clear ho hd
 obtain ⟨c,i,m,d⟩ := x
 simp only at *
 obtain ⟨cn,rfl⟩ : ∃ cn : Nat,c = (cn : Int) := ⟨c.toNat,by omega⟩
 obtain ⟨jn,rfl⟩ : ∃ cn : Nat,i = (cn : Int) := ⟨i.toNat,by omega⟩
 obtain ⟨mn,rfl⟩ : ∃ cn : Nat,m = (cn : Int) := ⟨m.toNat,by omega⟩
 simp only [Int.toNat_natCast] at HT
 have c1 := fun wx => spec_var cn wx (by omega)
 have c2 := fun wx => spec_var jn wx (by omega)
 have c3 := fun wx => spec_var mn wx (by omega)
 have l1 : (txt (vF 6 cn)).size ≤ 7 := by rw [txt_size]; exact vF_length 6 cn
 have l2 : (txt (vF 6 jn)).size ≤ 7 := by rw [txt_size]; exact vF_length 6 jn
 have l3 : (txt (vF 6 mn)).size ≤ 7 := by rw [txt_size]; exact vF_length 6 mn
 generalize txt (vF 6 cn) = t1 at *
 generalize txt (vF 6 jn) = t2 at *
 generalize txt (vF 6 mn) = t3 at *
 have p1 : ¬ 9223372036854775807 < t1.size + t2.size := by omega
 have p2 : ¬ 9223372036854775807 < t1.size + t2.size + t3.size := by omega
 have p3 : ¬ 9223372036854775807 < t1.size + t2.size + t3.size + d.size := by omega
 clear a1 a2 a3 a4 a5 a6 a7 l1 l2 l3
 unfold vAns at *
 simp only at *
 go_enter Tryz.func38,Tryz.ntmps38
 go_wp2_with fail
 generalize w.alloc (.cells #[.int .i64 (cn : Int),.int .i64 (jn : Int),.int .i64 (mn : Int),.string d] 51) = W at *
 refine (c0 _).mono ?_
 rintro e y1 ⟨rfl,hb1⟩
 have B1 := hQz (hb0.trans (hb1.mono hb0.size))
 have Q1 := Hid.mk (k0.on hb1 k0.2.2.2.2 (Nat.le_refl _))
 clear hb0 hb1 c0 k0
 go_wp2_with fail
 have SS : Hid (y1.drew.cell? ⟨w.heap.size,0,none⟩ = some (.int .i64 (cn : Int)) ∧ y1.drew.cell? ⟨w.heap.size,1,none⟩ = some (.int .i64 (jn : Int)) ∧ y1.drew.cell? ⟨w.heap.size,2,none⟩ = some (.int .i64 (mn : Int)) ∧ y1.drew.cell? ⟨w.heap.size,3,none⟩ = some (.string d)) := ⟨Q1.out.1,Q1.out.2.1,Q1.out.2.2.1,Q1.out.2.2.2.1⟩
 have B1' : Hid (Below w.heap.size w y1.drew) := B1.out.drew
 have Q1' : Hid (Cell4 y1.drew w.heap.size ⟨(cn : Int),(jn : Int),(mn : Int),d⟩) := Q1.out
 refine wp_region_until (fun w' => w'.cell? ⟨w.heap.size,0,none⟩ = some (.int .i64 (cn : Int)) ∧ w'.cell? ⟨w.heap.size,1,none⟩ = some (.int .i64 (jn : Int)) ∧ w'.cell? ⟨w.heap.size,2,none⟩ = some (.int .i64 (mn : Int)) ∧ w'.cell? ⟨w.heap.size,3,none⟩ = some (.string d)) (fun i => false) 15 (by rfl) (by kernel_rfl) ?_
 clear Q1 B1
 generalize y1.drew = y0 at *
 have B1 := B1'
 have Q1 := Q1'
 clear B1' Q1'
 refine tKf 0 SS.out ?_
 refine tKf 1 SS.out ?_
 refine tKf 3 SS.out ?_
 refine tKf 4 SS.out ?_
 refine tKf 7 SS.out ?_
 refine tKf 8 SS.out ?_
 refine tKf 11 SS.out ?_
 refine tKf 12 SS.out ?_
 refine uNe 2 (fun K hK => ?_)
 go_simp
 refine (c1 _).mono ?_
 rintro e y2 ⟨rfl,hb⟩
 have B2 := hQz (B1.out.trans (hb.mono B1.out.size))
 have Q2 := Hid.mk (Q1.out.on hb Q1.out.2.2.2.2 (Nat.le_refl _))
 clear hb SS Q1 B1
 have SS : Hid (y2.cell? ⟨w.heap.size,0,none⟩ = some (.int .i64 (cn : Int)) ∧ y2.cell? ⟨w.heap.size,1,none⟩ = some (.int .i64 (jn : Int)) ∧ y2.cell? ⟨w.heap.size,2,none⟩ = some (.int .i64 (mn : Int)) ∧ y2.cell? ⟨w.heap.size,3,none⟩ = some (.string d)) := ⟨Q2.out.1,Q2.out.2.1,Q2.out.2.2.1,Q2.out.2.2.2.1⟩
 go_wp2_with fail
 refine hK.out _ _ (fun _ _ => SS.out) ?_
 clear hK K
 try simp only [Act.put,zQ1,zQ2,zQ3]
 refine uNe 5 (fun K hK => ?_)
 go_simp
 refine (c2 _).mono ?_
 rintro e y3 ⟨rfl,hb⟩
 have B3 := hQz (B2.out.trans (hb.mono B2.out.size))
 have Q3 := Hid.mk (Q2.out.on hb Q2.out.2.2.2.2 (Nat.le_refl _))
 clear hb SS Q2 B2
 have SS : Hid (y3.cell? ⟨w.heap.size,0,none⟩ = some (.int .i64 (cn : Int)) ∧ y3.cell? ⟨w.heap.size,1,none⟩ = some (.int .i64 (jn : Int)) ∧ y3.cell? ⟨w.heap.size,2,none⟩ = some (.int .i64 (mn : Int)) ∧ y3.cell? ⟨w.heap.size,3,none⟩ = some (.string d)) := ⟨Q3.out.1,Q3.out.2.1,Q3.out.2.2.1,Q3.out.2.2.2.1⟩
 go_wp2_with fail
 refine hK.out _ _ (fun _ _ => SS.out) ?_
 clear hK K
 try simp only [Act.put,zQ1,zQ2,zQ3]
 refine pUf 6 ?_
 refine uNe 9 (fun K hK => ?_)
 go_simp
 refine (c3 _).mono ?_
 rintro e y4 ⟨rfl,hb⟩
 have B4 := hQz (B3.out.trans (hb.mono B3.out.size))
 have Q4 := Hid.mk (Q3.out.on hb Q3.out.2.2.2.2 (Nat.le_refl _))
 clear hb SS Q3 B3
 have SS : Hid (y4.cell? ⟨w.heap.size,0,none⟩ = some (.int .i64 (cn : Int)) ∧ y4.cell? ⟨w.heap.size,1,none⟩ = some (.int .i64 (jn : Int)) ∧ y4.cell? ⟨w.heap.size,2,none⟩ = some (.int .i64 (mn : Int)) ∧ y4.cell? ⟨w.heap.size,3,none⟩ = some (.string d)) := ⟨Q4.out.1,Q4.out.2.1,Q4.out.2.2.1,Q4.out.2.2.2.1⟩
 go_wp2_with fail
 refine hK.out _ _ (fun _ _ => SS.out) ?_
 clear hK K
 try simp only [Act.put,zQ1,zQ2,zQ3]
 refine pUf 10 ?_
 refine pUf 13 ?_
 refine pUf 14 ?_
 refine until_done (by kernel_rfl) ?_ _
 go_wp2_with fail
 go_ret
 exact ⟨by rw [HT.out]; rfl,B4.out⟩
theorem conv_oneC (kn g cap : Nat) (w : World) (h : w.cell? ⟨g,0,none⟩ = some (.int .u8 (kn : Int))) (hk : kn < 256) : (convert 68 9 (.slice (some ⟨g,0,none⟩) 1 cap)).run Tryz.prog w = .ok (.string (txt [byt kn])) w := by
 refine run_convert_bytes_back (P := Tryz.prog) w 68 9 5 ⟨g,0,none⟩ cap [byt kn] Tryz.underlying68 Tryz.underlying5 Tryz.underlying9 ?_
 intro j hj
 obtain rfl : j = 0 := by simp at hj; omega
 show w.cell? ⟨g,0,none⟩ = _
 rw [h]
 have : (byt kn).toNat = kn := by rw [byt_toNat]; omega
 simp [this]
theorem byt_oneC (n : Nat) (h : n < 256) : IntKind.u8.wrap (n : Int) = (n : Int) := by rw [IntKind.wrap_u8']; omega
set_option maxHeartbeats 1000000 in
theorem specPiece (s : ByteArray) (w : World) (hs : s.size ≤ 1048576) : Calls Tryz.prog 36 #[.string s] w fun e w' => e = .returned (.string (pcT s)) ∧ Below w.heap.size w w' := by
 have c1 := fun wx => spec_var s.size wx (by omega)
 have l1 : (txt (vF 6 s.size)).size ≤ 7 := by rw [txt_size]; exact vF_length 6 _
 have HE : Hid (pcT s = txt (vF 6 s.size) ++ s) := by unfold Hid pcT vT; rw [Int.toNat_natCast]
 generalize txt (vF 6 s.size) = t1 at *
 have p1 : ¬ 9223372036854775807 < t1.size + s.size := by omega
 clear l1
 go_enter Tryz.func36,Tryz.ntmps36
 go_wp2_with fail
 refine (c1 _).mono ?_
 rintro e w1 ⟨rfl,hb⟩
 have B1 := hQz hb
 clear hb
 go_wp2_with fail
 go_ret
 exact ⟨by rw [HE.out]; rfl,B1.out⟩
set_option maxRecDepth 20000 in
set_option maxHeartbeats 16000000 in
theorem specShowState (x : Sta) (v : Value) (w : World) (B : Nat) (hv : StaV w B v x) (hs : StShort x) (hB : B ≤ w.heap.size) :
  Calls Tryz.prog 11 #[v] w fun e w' => e = .returned (.string (staT x)) ∧ Below w.heap.size w w' := by
 have HV := Hid.mk hv
 have HB : Hid (B ≤ w.heap.size) := hB
 have HS : Hid (StShort x) := hs
 obtain ⟨vb,vc,vf,vs,rfl,hb0,hc0,hf0,hs0⟩ := hv
 have HC := Hid.mk hc0
 obtain ⟨Ab,cb,rfl,hlb⟩ := pt_look hb0
 obtain ⟨Ac,cc,rfl,hlc⟩ := hc0.look
 obtain ⟨Af,cf,rfl,hlf⟩ := st_look hf0
 obtain ⟨As,cs,rfl,hls⟩ := ses_look hs0
 have HLB := Hid.mk hlb
 have HLF := Hid.mk hlf
 have HLS := Hid.mk hls
 clear hb0 hc0 hf0 hs0 hlb hlc hlf hls hB hs
 have c0 := fun wx (h : Below w.heap.size w wx) => specStateOk x _ wx B (HV.out.on (h.mono HB.out)) HS.out (Nat.le_trans HB.out h.size)
 have HX : Hid (∀ vb vc vf vs,vSt x vb vc vf vs = .agg #[.int .i64 x.kind,.int .i64 x.hold,.int .i64 x.mark,vb,.int .i64 x.eng.floor,vc,vf,vs]) := fun _ _ _ _ => rfl
 rw [HX.out] at c0 ⊢
 clear HV
 have HNB : Hid (∀ n,x.bks.length = n → n = x.bks.length) := fun _ h => h.symm
 generalize hnb : x.bks.length = nb at *
 generalize hnc : x.eng.cache.length = nc at *
 generalize hnf : x.eng.files.length = nf at *
 generalize hns : x.ses.length = ns at *
 have HNN : Hid (x.bks.length = nb ∧ x.eng.cache.length = nc ∧ x.eng.files.length = nf ∧ x.ses.length = ns) := ⟨hnb,hnc,hnf,hns⟩
 clear hnb hnc hnf hns HNB
 cases ho : staOk x
 ·have HE : Hid (staT x = ⟨#[]⟩) := staT_no ho
  rw [ho] at c0
  clear ho
  generalize x.kind = sk at *
  generalize x.hold = sh at *
  generalize x.mark = sm at *
  generalize x.eng.floor = sf at *
  have hb0 := (Below.refl w.heap.size w).alloc (Nat.le_refl _) (.cells #[.int .i64 sk,.int .i64 sh,.int .i64 sm,.slice Ab nb cb,.int .i64 sf,.slice Ac nc cc,.slice Af nf cf,.slice As ns cs] 38)
  have k0 := Blk.new w #[.int .i64 sk,.int .i64 sh,.int .i64 sm,.slice Ab nb cb,.int .i64 sf,.slice Ac nc cc,.slice Af nf cf,.slice As ns cs] 38
  have kb0 := k0.cell 0 _ rfl
  have kb1 := k0.cell 1 _ rfl
  have kb2 := k0.cell 2 _ rfl
  have kb3 := k0.cell 3 _ rfl
  have kb4 := k0.cell 4 _ rfl
  have kb5 := k0.cell 5 _ rfl
  have kb6 := k0.cell 6 _ rfl
  have kb7 := k0.cell 7 _ rfl
  clear k0
  go_enter Tryz.func11,Tryz.ntmps11
  go_wp2_with fail
  generalize w.alloc (.cells #[.int .i64 sk,.int .i64 sh,.int .i64 sm,.slice Ab nb cb,.int .i64 sf,.slice Ac nc cc,.slice Af nf cf,.slice As ns cs] 38) = W at *
  clear kb0 kb1 kb2 kb3 kb4 kb5 kb6 kb7
  refine (c0 _ hb0).mono ?_
  rintro e w1 ⟨rfl,hb1⟩
  have B1 := hQz (hb0.trans (hb1.mono hb0.size))
  clear hb0 hb1 c0
  go_wp2_with fail
  go_ret
  exact ⟨by rw [HE.out]; rfl,B1.out⟩
 rw [ho] at c0
 have HE : Hid (staT x = imT x) := staT_yes ho
 have HSZ : Hid ((imT x).size ≤ 30000) := imT_size ho
 obtain ⟨⟨a1,a2⟩,⟨a3,a4⟩,⟨a5,a6⟩,a7,a8,⟨a9,b1⟩,b2,b3,b4,b5,b6⟩ := staOk_in ho
 have HBK := Hid.mk (bok_in x.bks 0 (Int.le_refl _) a8)
 have HSE := Hid.mk (ses_in x.ses 1 (by decide) b6)
 have HFI : Hid (∀ s ∈ x.eng.files,s.size ≤ 5004) := fun s hs => isF_size (b4 s hs)
 have HCK := Hid.mk HS.out.2.1
 clear ho HS
 obtain ⟨kn,hkn⟩ : ∃ n : Nat,x.kind = (n : Int) := ⟨x.kind.toNat,by omega⟩
 obtain ⟨hn,hhn⟩ : ∃ n : Nat,x.hold = (n : Int) := ⟨x.hold.toNat,by omega⟩
 obtain ⟨mn,hmn⟩ : ∃ n : Nat,x.mark = (n : Int) := ⟨x.mark.toNat,by omega⟩
 obtain ⟨fn,hfn⟩ : ∃ n : Nat,x.eng.floor = (n : Int) := ⟨x.eng.floor.toNat,by omega⟩
 rw [hkn] at a1 a2
 rw [hhn] at a3 a4
 rw [hmn] at a5 a6
 rw [hfn] at a9 b1
 have HI1 : Hid (im1 x = txt [byt kn] ++ txt (vF 6 hn) ++ txt (vF 6 mn) ++ txt (vF 6 nb)) := by unfold Hid im1 vT; rw [hkn,hhn,hmn,HNN.out.1]; simp only [Int.toNat_natCast]
 have HI2 : Hid (im2 x = txt (vF 6 fn) ++ pcT (fileT x.eng.cache) ++ txt (vF 6 nf)) := by unfold Hid im2 vT; rw [hfn,HNN.out.2.2.1]; simp only [Int.toNat_natCast]
 have HI3 : Hid (vT (x.ses.length : Int) = txt (vF 6 ns)) := by unfold Hid vT; rw [HNN.out.2.2.2,Int.toNat_natCast]
 have z7 : nb ≤ 12 := by have := HNN.out.1; omega
 have z8 : nf ≤ 4 := by have := HNN.out.2.2.1; omega
 have z9 : ns ≤ 4 := by have := HNN.out.2.2.2; omega
 rw [hkn,hhn,hmn,hfn] at c0 ⊢
 clear hkn hhn hmn hfn a7 a8 b2 b3 b4 b5 b6 HX
 have qb : (nb : Int) ≤ 12 := by omega
 have qf : (nf : Int) ≤ 4 := by omega
 have qs : (ns : Int) ≤ 4 := by omega
 have cF := fun wx (h : Below w.heap.size w wx) => specFileText x.eng.cache _ wx B (HC.out.on (h.mono HB.out)) HCK.out.1 HCK.out.2.1 (Nat.le_trans HB.out h.size)
 have HFT : Hid ((fileT x.eng.cache).size ≤ 5004) := fileT_size _
 have HBT : Hid (∀ k,(catT bkT (x.bks.take k)).size ≤ 168) := fun k => by
  have h1 := catT_take_size bkT x.bks 14 k (fun b _ => bkT_size b)
  have h2 : x.bks.length * 14 ≤ 12 * 14 := Nat.mul_le_mul_right _ (by have := HNN.out.1; omega)
  omega
 have HFS : Hid (∀ k,(catT pcT (x.eng.files.take k)).size ≤ 20044) := fun k => by
  have h1 := catT_take_size pcT x.eng.files 5011 k (fun s hs => by have := pcT_size s; have := HFI.out s hs; omega)
  have h2 : x.eng.files.length * 5011 ≤ 4 * 5011 := Nat.mul_le_mul_right _ (by have := HNN.out.2.2.1; omega)
  omega
 have HST : Hid (∀ k,(catT seT (x.ses.take k)).size ≤ 3768) := fun k => by
  have h1 := catT_take_size seT x.ses 942 k (fun b _ => seT_size b)
  have h2 : x.ses.length * 942 ≤ 4 * 942 := Nat.mul_le_mul_right _ (by have := HNN.out.2.2.2; omega)
  omega
 have i1 := im1_size x
 have i2 := im2_size x
 have HZ : Hid ((im1 x).size ≤ 22 ∧ (im2 x).size ≤ 5025) := ⟨i1,i2⟩
 clear i1 i2
 have HAL : Hid (catT bkT (x.bks.take nb) = catT bkT x.bks ∧ catT pcT (x.eng.files.take nf) = catT pcT x.eng.files ∧ catT seT (x.ses.take ns) = catT seT x.ses) := by
  have h := HNN.out
  refine ⟨?_,?_,?_⟩
  ·rw [← h.1,List.take_length]
  ·rw [← h.2.2.1,List.take_length]
  ·rw [← h.2.2.2,List.take_length]
 have hb0 := (Below.refl w.heap.size w).alloc (Nat.le_refl _) (.cells #[.int .i64 (kn : Int),.int .i64 (hn : Int),.int .i64 (mn : Int),.slice Ab nb cb,.int .i64 (fn : Int),.slice Ac nc cc,.slice Af nf cf,.slice As ns cs] 38)
 have k0 := Blk.new w #[.int .i64 (kn : Int),.int .i64 (hn : Int),.int .i64 (mn : Int),.slice Ab nb cb,.int .i64 (fn : Int),.slice Ac nc cc,.slice Af nf cf,.slice As ns cs] 38
 have kb0 := k0.cell 0 _ rfl
 have kb1 := k0.cell 1 _ rfl
 have kb2 := k0.cell 2 _ rfl
 have kb3 := k0.cell 3 _ rfl
 have kb4 := k0.cell 4 _ rfl
 have kb5 := k0.cell 5 _ rfl
 have kb6 := k0.cell 6 _ rfl
 have kb7 := k0.cell 7 _ rfl
 go_enter Tryz.func11,Tryz.ntmps11
 go_wp2_with fail
 generalize w.alloc (.cells #[.int .i64 (kn : Int),.int .i64 (hn : Int),.int .i64 (mn : Int),.slice Ab nb cb,.int .i64 (fn : Int),.slice Ac nc cc,.slice Af nf cf,.slice As ns cs] 38) = W at *
 clear kb0 kb1 kb2 kb3 kb4 kb5 kb6 kb7
 refine (c0 _ hb0).mono ?_
 rintro e w1 ⟨rfl,hb1⟩
 have B1 := hQz (hb0.trans (hb1.mono hb0.size))
 have K1 := Hid.mk (k0.on hb1 k0.lt)
 clear hb0 hb1 c0 k0
 have hu8 := byt_oneC kn (by omega)
 have hmod : (kn : Int) % 256 = (kn : Int) := by omega
 have hknI : (kn : Int) < 256 := by omega
 have cC : ∀ g wx,wx.cell? ⟨g,0,none⟩ = some (.int .u8 (kn : Int)) → (convert 68 9 (.slice (some ⟨g,0,none⟩) 1 1)).run Tryz.prog wx = .ok (.string (txt [byt kn])) wx := fun g wx h => conv_oneC kn g 1 wx h (by omega)
 have cH := fun wx => spec_var hn wx (by omega)
 have cM := fun wx => spec_var mn wx (by omega)
 have cN := fun wx => spec_var nb wx (by omega)
 have cFl := fun wx => spec_var fn wx (by omega)
 have cNf := fun wx => spec_var nf wx (by omega)
 have cNs := fun wx => spec_var ns wx (by omega)
 have l0 : (txt [byt kn]).size = 1 := by rw [txt_size]; rfl
 have l1 : (txt (vF 6 hn)).size ≤ 7 := by rw [txt_size]; exact vF_length 6 _
 have l2 : (txt (vF 6 mn)).size ≤ 7 := by rw [txt_size]; exact vF_length 6 _
 have l3 : (txt (vF 6 nb)).size ≤ 7 := by rw [txt_size]; exact vF_length 6 _
 have l4 : (txt (vF 6 fn)).size ≤ 7 := by rw [txt_size]; exact vF_length 6 _
 have l5 : (txt (vF 6 nf)).size ≤ 7 := by rw [txt_size]; exact vF_length 6 _
 have l6 : (txt (vF 6 ns)).size ≤ 7 := by rw [txt_size]; exact vF_length 6 _
 generalize txt [byt kn] = t0 at *
 generalize txt (vF 6 hn) = t1 at *
 generalize txt (vF 6 mn) = t2 at *
 generalize txt (vF 6 nb) = t3 at *
 generalize txt (vF 6 fn) = t4 at *
 generalize txt (vF 6 nf) = t5 at *
 generalize txt (vF 6 ns) = t6 at *
 have p1 : ¬ 9223372036854775807 < t0.size + t1.size := by omega
 have p2 : ¬ 9223372036854775807 < t0.size + t1.size + t2.size := by omega
 have p3 : ¬ 9223372036854775807 < t0.size + t1.size + t2.size + t3.size := by omega
 clear a1 a2 a3 a4 a5 a6 a9 b1 l0
 obtain ⟨gs,hgs⟩ : ∃ gs,gs = w.heap.size := ⟨_,rfl⟩
 have HGS : Hid (w.heap.size ≤ gs) := by unfold Hid; omega
 rw [← hgs] at K1
 go_upto_region 3 with fail
 rw [← hgs]
 clear hgs
 go_cut [3] from 10 to 27 (fun s3 wc => s3 = .string (im1 x) ∧ Below w.heap.size w wc ∧ Blk wc gs #[.int .i64 (kn : Int),.int .i64 (hn : Int),.int .i64 (mn : Int),.slice Ab nb cb,.int .i64 (fn : Int),.slice Ac nc cc,.slice Af nf cf,.slice As ns cs] 38)
 case first =>
  have D0 : Hid (Below w.heap.size w w1.drew) := B1.out.drew
  have K0 : Hid (Blk w1.drew gs #[.int .i64 (kn : Int),.int .i64 (hn : Int),.int .i64 (mn : Int),.slice Ab nb cb,.int .i64 (fn : Int),.slice Ac nc cc,.slice Af nf cf,.slice As ns cs] 38) := K1.out
  have S0 : Hid (w1.drew.cell? ⟨gs,0,none⟩ = some (.int .i64 (kn : Int)) ∧ w1.drew.cell? ⟨gs,1,none⟩ = some (.int .i64 (hn : Int)) ∧ w1.drew.cell? ⟨gs,2,none⟩ = some (.int .i64 (mn : Int)) ∧ w1.drew.cell? ⟨gs,3,none⟩ = some (.slice Ab nb cb)) := ⟨K0.out.cell 0 _ rfl,K0.out.cell 1 _ rfl,K0.out.cell 2 _ rfl,K0.out.cell 3 _ rfl⟩
  refine wp_region_until (fun w' => w'.cell? ⟨gs,0,none⟩ = some (.int .i64 (kn : Int)) ∧ w'.cell? ⟨gs,1,none⟩ = some (.int .i64 (hn : Int)) ∧ w'.cell? ⟨gs,2,none⟩ = some (.int .i64 (mn : Int)) ∧ w'.cell? ⟨gs,3,none⟩ = some (.slice Ab nb cb)) (fun _ => false) 19 (by rfl) (by kernel_rfl) ?_
  clear B1 K1
  generalize w1.drew = X at *
  refine tKf 0 S0.out ?_
  refine tKf 1 S0.out ?_
  refine pUf 2 ?_
  refine tKf 5 S0.out ?_
  refine tKf 6 S0.out ?_
  refine tKf 9 S0.out ?_
  refine tKf 10 S0.out ?_
  refine tKf 13 S0.out ?_
  refine tKf 14 S0.out ?_
  refine pUf 15 ?_
  have K00 := K0
  have D00 := D0
  clear K0 D0 S0
  generalize X = X00 at *
  all_goals
   first
   |
    have hm := K00
    clear hm
    refine until_two 3 7 (by rfl) (by rfl) (by kernel_rfl) (fun K hK => ?_) (fun K hK => ?_)
    all_goals
     first
     |
      go_simp
      have G10 := Hid.mk (Blk.new X00 #[.int .u8 (kn : Int)] 5)
      have K10 := Hid.mk (K00.out.alloc (.cells #[.int .u8 (kn : Int)] 5))
      have D10 := Hid.mk (D00.out.alloc D00.out.size (.cells #[.int .u8 (kn : Int)] 5))
      refine hK.out _ _ (fun _ _ => ⟨K10.out.cell 0 _ rfl,K10.out.cell 1 _ rfl,K10.out.cell 2 _ rfl,K10.out.cell 3 _ rfl⟩) ?_
      clear hK K K00 D00
      generalize hg : X00.heap.size = gb10 at *
      clear hg
      generalize X00.alloc (.cells #[.int .u8 (kn : Int)] 5) = X10 at *
      try simp only [Act.put,zQ1,zQ2,zQ3]
     |
      go_simp
      refine (cH _).mono ?_
      rintro e X01 ⟨rfl,hb⟩
      have K01 := Hid.mk (K00.out.on hb K00.out.lt)
      have D01 := Hid.mk (D00.out.trans (hb.mono D00.out.size))
      clear hb K00 D00
      go_wp2_with fail
      refine hK.out _ _ (fun _ _ => ⟨K01.out.cell 0 _ rfl,K01.out.cell 1 _ rfl,K01.out.cell 2 _ rfl,K01.out.cell 3 _ rfl⟩) ?_
      clear hK K
      try simp only [Act.put,zQ1,zQ2,zQ3]
  all_goals
   first
   |
    have hm := K01
    clear hm
    refine until_two 3 11 (by rfl) (by rfl) (by kernel_rfl) (fun K hK => ?_) (fun K hK => ?_)
    all_goals
     first
     |
      go_simp
      have G11 := Hid.mk (Blk.new X01 #[.int .u8 (kn : Int)] 5)
      have K11 := Hid.mk (K01.out.alloc (.cells #[.int .u8 (kn : Int)] 5))
      have D11 := Hid.mk (D01.out.alloc D01.out.size (.cells #[.int .u8 (kn : Int)] 5))
      refine hK.out _ _ (fun _ _ => ⟨K11.out.cell 0 _ rfl,K11.out.cell 1 _ rfl,K11.out.cell 2 _ rfl,K11.out.cell 3 _ rfl⟩) ?_
      clear hK K K01 D01
      generalize hg : X01.heap.size = gb11 at *
      clear hg
      generalize X01.alloc (.cells #[.int .u8 (kn : Int)] 5) = X11 at *
      try simp only [Act.put,zQ1,zQ2,zQ3]
     |
      go_simp
      refine (cM _).mono ?_
      rintro e X02 ⟨rfl,hb⟩
      have K02 := Hid.mk (K01.out.on hb K01.out.lt)
      have D02 := Hid.mk (D01.out.trans (hb.mono D01.out.size))
      clear hb K01 D01
      go_wp2_with fail
      refine hK.out _ _ (fun _ _ => ⟨K02.out.cell 0 _ rfl,K02.out.cell 1 _ rfl,K02.out.cell 2 _ rfl,K02.out.cell 3 _ rfl⟩) ?_
      clear hK K
      try simp only [Act.put,zQ1,zQ2,zQ3]
   |
    have hm := K10
    clear hm
    refine until_two 4 7 (by rfl) (by rfl) (by kernel_rfl) (fun K hK => ?_) (fun K hK => ?_)
    all_goals
     first
     |
      have hcv := cC gb10 X10 (G10.out.cell 0 _ rfl)
      go_simp
      clear hcv
      refine hK.out _ _ (fun _ h => h) ?_
      have K20 := K10
      have D20 := D10
      clear hK K G10 K10 D10
      generalize X10 = X20 at *
      try simp only [Act.put,zQ1,zQ2,zQ3]
     |
      go_simp
      refine (cH _).mono ?_
      rintro e X11 ⟨rfl,hb⟩
      have K11 := Hid.mk (K10.out.on hb K10.out.lt)
      have D11 := Hid.mk (D10.out.trans (hb.mono D10.out.size))
      have G11 := Hid.mk (G10.out.on hb G10.out.lt)
      generalize gb10 = gb11 at *
      clear hb K10 D10 G10
      go_wp2_with fail
      refine hK.out _ _ (fun _ _ => ⟨K11.out.cell 0 _ rfl,K11.out.cell 1 _ rfl,K11.out.cell 2 _ rfl,K11.out.cell 3 _ rfl⟩) ?_
      clear hK K
      try simp only [Act.put,zQ1,zQ2,zQ3]
  all_goals
   first
   |
    have hm := K02
    clear hm
    refine until_two 3 16 (by rfl) (by rfl) (by kernel_rfl) (fun K hK => ?_) (fun K hK => ?_)
    all_goals
     first
     |
      go_simp
      have G12 := Hid.mk (Blk.new X02 #[.int .u8 (kn : Int)] 5)
      have K12 := Hid.mk (K02.out.alloc (.cells #[.int .u8 (kn : Int)] 5))
      have D12 := Hid.mk (D02.out.alloc D02.out.size (.cells #[.int .u8 (kn : Int)] 5))
      refine hK.out _ _ (fun _ _ => ⟨K12.out.cell 0 _ rfl,K12.out.cell 1 _ rfl,K12.out.cell 2 _ rfl,K12.out.cell 3 _ rfl⟩) ?_
      clear hK K K02 D02
      generalize hg : X02.heap.size = gb12 at *
      clear hg
      generalize X02.alloc (.cells #[.int .u8 (kn : Int)] 5) = X12 at *
      try simp only [Act.put,zQ1,zQ2,zQ3]
     |
      go_simp
      refine (cN _).mono ?_
      rintro e X03 ⟨rfl,hb⟩
      have K03 := Hid.mk (K02.out.on hb K02.out.lt)
      have D03 := Hid.mk (D02.out.trans (hb.mono D02.out.size))
      clear hb K02 D02
      go_wp2_with fail
      refine hK.out _ _ (fun _ _ => ⟨K03.out.cell 0 _ rfl,K03.out.cell 1 _ rfl,K03.out.cell 2 _ rfl,K03.out.cell 3 _ rfl⟩) ?_
      clear hK K
      try simp only [Act.put,zQ1,zQ2,zQ3]
   |
    have hm := K11
    clear hm
    refine until_two 4 11 (by rfl) (by rfl) (by kernel_rfl) (fun K hK => ?_) (fun K hK => ?_)
    all_goals
     first
     |
      have hcv := cC gb11 X11 (G11.out.cell 0 _ rfl)
      go_simp
      clear hcv
      refine hK.out _ _ (fun _ h => h) ?_
      have K21 := K11
      have D21 := D11
      clear hK K G11 K11 D11
      generalize X11 = X21 at *
      try simp only [Act.put,zQ1,zQ2,zQ3]
      refine pUf 8 ?_
     |
      go_simp
      refine (cM _).mono ?_
      rintro e X12 ⟨rfl,hb⟩
      have K12 := Hid.mk (K11.out.on hb K11.out.lt)
      have D12 := Hid.mk (D11.out.trans (hb.mono D11.out.size))
      have G12 := Hid.mk (G11.out.on hb G11.out.lt)
      generalize gb11 = gb12 at *
      clear hb K11 D11 G11
      go_wp2_with fail
      refine hK.out _ _ (fun _ _ => ⟨K12.out.cell 0 _ rfl,K12.out.cell 1 _ rfl,K12.out.cell 2 _ rfl,K12.out.cell 3 _ rfl⟩) ?_
      clear hK K
      try simp only [Act.put,zQ1,zQ2,zQ3]
   |
    have hm := K20
    clear hm
    refine uNe 7 (fun K hK => ?_)
    go_simp
    refine (cH _).mono ?_
    rintro e X21 ⟨rfl,hb⟩
    have K21 := Hid.mk (K20.out.on hb K20.out.lt)
    have D21 := Hid.mk (D20.out.trans (hb.mono D20.out.size))
    clear hb K20 D20
    go_wp2_with fail
    refine hK.out _ _ (fun _ _ => ⟨K21.out.cell 0 _ rfl,K21.out.cell 1 _ rfl,K21.out.cell 2 _ rfl,K21.out.cell 3 _ rfl⟩) ?_
    clear hK K
    try simp only [Act.put,zQ1,zQ2,zQ3]
    refine pUf 8 ?_
  all_goals
   first
   |
    have hm := K03
    clear hm
    refine uNe 3 (fun K hK => ?_)
    go_simp
    have G13 := Hid.mk (Blk.new X03 #[.int .u8 (kn : Int)] 5)
    have K13 := Hid.mk (K03.out.alloc (.cells #[.int .u8 (kn : Int)] 5))
    have D13 := Hid.mk (D03.out.alloc D03.out.size (.cells #[.int .u8 (kn : Int)] 5))
    refine hK.out _ _ (fun _ _ => ⟨K13.out.cell 0 _ rfl,K13.out.cell 1 _ rfl,K13.out.cell 2 _ rfl,K13.out.cell 3 _ rfl⟩) ?_
    clear hK K K03 D03
    generalize hg : X03.heap.size = gb13 at *
    clear hg
    generalize X03.alloc (.cells #[.int .u8 (kn : Int)] 5) = X13 at *
    try simp only [Act.put,zQ1,zQ2,zQ3]
   |
    have hm := K12
    clear hm
    refine until_two 4 16 (by rfl) (by rfl) (by kernel_rfl) (fun K hK => ?_) (fun K hK => ?_)
    all_goals
     first
     |
      have hcv := cC gb12 X12 (G12.out.cell 0 _ rfl)
      go_simp
      clear hcv
      refine hK.out _ _ (fun _ h => h) ?_
      have K22 := K12
      have D22 := D12
      clear hK K G12 K12 D12
      generalize X12 = X22 at *
      try simp only [Act.put,zQ1,zQ2,zQ3]
      refine pUf 8 ?_
      refine pUf 12 ?_
     |
      go_simp
      refine (cN _).mono ?_
      rintro e X13 ⟨rfl,hb⟩
      have K13 := Hid.mk (K12.out.on hb K12.out.lt)
      have D13 := Hid.mk (D12.out.trans (hb.mono D12.out.size))
      have G13 := Hid.mk (G12.out.on hb G12.out.lt)
      generalize gb12 = gb13 at *
      clear hb K12 D12 G12
      go_wp2_with fail
      refine hK.out _ _ (fun _ _ => ⟨K13.out.cell 0 _ rfl,K13.out.cell 1 _ rfl,K13.out.cell 2 _ rfl,K13.out.cell 3 _ rfl⟩) ?_
      clear hK K
      try simp only [Act.put,zQ1,zQ2,zQ3]
   |
    have hm := K21
    clear hm
    refine uNe 11 (fun K hK => ?_)
    go_simp
    refine (cM _).mono ?_
    rintro e X22 ⟨rfl,hb⟩
    have K22 := Hid.mk (K21.out.on hb K21.out.lt)
    have D22 := Hid.mk (D21.out.trans (hb.mono D21.out.size))
    clear hb K21 D21
    go_wp2_with fail
    refine hK.out _ _ (fun _ _ => ⟨K22.out.cell 0 _ rfl,K22.out.cell 1 _ rfl,K22.out.cell 2 _ rfl,K22.out.cell 3 _ rfl⟩) ?_
    clear hK K
    try simp only [Act.put,zQ1,zQ2,zQ3]
    refine pUf 12 ?_
  all_goals
   first
   |
    have hm := K13
    clear hm
    refine uNe 4 (fun K hK => ?_)
    have hcv := cC gb13 X13 (G13.out.cell 0 _ rfl)
    go_simp
    clear hcv
    refine hK.out _ _ (fun _ h => h) ?_
    have K23 := K13
    have D23 := D13
    clear hK K G13 K13 D13
    generalize X13 = X23 at *
    try simp only [Act.put,zQ1,zQ2,zQ3]
    refine pUf 8 ?_
    refine pUf 12 ?_
    refine pUf 17 ?_
    refine pUf 18 ?_
   |
    have hm := K22
    clear hm
    refine uNe 16 (fun K hK => ?_)
    go_simp
    refine (cN _).mono ?_
    rintro e X23 ⟨rfl,hb⟩
    have K23 := Hid.mk (K22.out.on hb K22.out.lt)
    have D23 := Hid.mk (D22.out.trans (hb.mono D22.out.size))
    clear hb K22 D22
    go_wp2_with fail
    refine hK.out _ _ (fun _ _ => ⟨K23.out.cell 0 _ rfl,K23.out.cell 1 _ rfl,K23.out.cell 2 _ rfl,K23.out.cell 3 _ rfl⟩) ?_
    clear hK K
    try simp only [Act.put,zQ1,zQ2,zQ3]
    refine pUf 17 ?_
    refine pUf 18 ?_
  all_goals
   refine until_done (by kernel_rfl) ?_ _
   go_wp2_with fail
   refine Met.intro ?_
   go_step
   (repeat apply Exists.intro)
   refine ⟨?_,rfl⟩
   exact ⟨by rw [HI1.out],D23.out,K23.out⟩
 case rest =>
 obtain ⟨rfl,h1,h2⟩ := hcut
 have B2 := hQz h1
 have K2 := Hid.mk h2
 clear h1 h2 B1 K1 hu8 hmod hknI cC cH cM cN p1 p2 p3
 generalize wc = w2 at *
 go_wp2_with fail
 go_loopw [3,4] (fun v3 v4 wr => ∃ k : Nat,k ≤ nb ∧ v4 = .int .i64 (k : Int) ∧ v3 = .string (im1 x ++ catT bkT (x.bks.take k)) ∧ Below w.heap.size w wr ∧ Blk wr gs #[.int .i64 (kn : Int),.int .i64 (hn : Int),.int .i64 (mn : Int),.slice Ab nb cb,.int .i64 (fn : Int),.slice Ac nc cc,.slice Af nf cf,.slice As ns cs] 38) (fun _ i _ => nb - (intOf i).toNat)
 case atStart => exact ⟨0,by omega,rfl,by simp [catT],B2.out,K2.out⟩
 case round =>
  obtain ⟨k,hk,rfl,rfl,hb,hkb⟩ := hrel
  have HB1 := hQz hb
  have HK1 := Hid.mk hkb
  clear hb hkb B2 K2
  by_cases hlt : k < nb
  ·have q4 : (k : Int) < (nb : Int) := by omega
   obtain ⟨g,off,rfl,hg,f1,f2⟩ := HLB.out k (by have := HNN.out.1; omega)
   have HG := hQz (Nat.lt_of_lt_of_le hg HB.out)
   obtain ⟨⟨t1',t2'⟩,t3',t4'⟩ := HBK.out k (by have := HNN.out.1; omega)
   obtain ⟨tn,htn⟩ : ∃ n : Nat,(x.bks.getD k default).t = (n : Int) := ⟨_,(Int.toNat_of_nonneg t1').symm⟩
   obtain ⟨vn,hvn⟩ : ∃ n : Nat,(x.bks.getD k default).v = (n : Int) := ⟨_,(Int.toNat_of_nonneg t3').symm⟩
   rw [htn] at f1 t2'
   rw [hvn] at f2 t4'
   have HF : Hid (w.cell? ⟨g,off + k * 2,none⟩ = some (.int .i64 (tn : Int)) ∧ w.cell? ⟨g,off + k * 2 + 1,none⟩ = some (.int .i64 (vn : Int))) := ⟨f1,f2⟩
   have HI : Hid (im1 x ++ catT bkT (x.bks.take (k + 1)) = im1 x ++ catT bkT (x.bks.take k) ++ txt (vF 6 tn) ++ txt (vF 6 vn)) := by
    unfold Hid
    rw [catT_snoc bkT x.bks k (by have := HNN.out.1; omega)]
    unfold bkT vT
    rw [htn,hvn]
    simp only [Int.toNat_natCast,ByteArray.append_assoc]
   have cA := fun wx => spec_var tn wx (by omega)
   have cB := fun wx => spec_var vn wx (by omega)
   have y1 : (txt (vF 6 tn)).size ≤ 7 := by rw [txt_size]; exact vF_length 6 _
   have y2 : (txt (vF 6 vn)).size ≤ 7 := by rw [txt_size]; exact vF_length 6 _
   have y3 : (im1 x ++ catT bkT (x.bks.take k)).size ≤ 1000 := by rw [ByteArray.size_append]; have := HZ.out.1; have := HBT.out k; omega
   clear htn hvn t1' t2' t3' t4' f1 f2 hg
   generalize im1 x ++ catT bkT (x.bks.take k) = tt at *
   generalize txt (vF 6 tn) = ta at *
   generalize txt (vF 6 vn) = tb at *
   have p1 : ¬ 9223372036854775807 < tt.size + ta.size := by omega
   have p2 : ¬ 9223372036854775807 < tt.size + ta.size + tb.size := by omega
   have kb3 := HK1.out.cell 3 _ rfl
   go_wp2_with fail
   clear kb3
   have DYa0 : Hid (Below w.heap.size w wr.drew) := HB1.out.drew
   have KYa0 : Hid (Blk wr.drew gs #[.int .i64 (kn : Int),.int .i64 (hn : Int),.int .i64 (mn : Int),.slice (some ⟨g,off,none⟩) nb cb,.int .i64 (fn : Int),.slice Ac nc cc,.slice Af nf cf,.slice As ns cs] 38) := HK1.out
   have SYa0 : Hid (wr.drew.cell? ⟨gs,3,none⟩ = some (.slice (some ⟨g,off,none⟩) nb cb) ∧ wr.drew.cell? ⟨g,off + k * 2,none⟩ = some (.int .i64 (tn : Int)) ∧ wr.drew.cell? ⟨g,off + k * 2 + 1,none⟩ = some (.int .i64 (vn : Int))) := ⟨KYa0.out.cell 3 _ rfl,(DYa0.out.cell (p := ⟨_,_,none⟩) HG.out).trans HF.out.1,(DYa0.out.cell (p := ⟨_,_,none⟩) HG.out).trans HF.out.2⟩
   refine wp_region_until (fun w' => w'.cell? ⟨gs,3,none⟩ = some (.slice (some ⟨g,off,none⟩) nb cb) ∧ w'.cell? ⟨g,off + k * 2,none⟩ = some (.int .i64 (tn : Int)) ∧ w'.cell? ⟨g,off + k * 2 + 1,none⟩ = some (.int .i64 (vn : Int))) (fun _ => false) 18 (by rfl) (by kernel_rfl) ?_
   clear HB1 HK1
   generalize wr.drew = Ya0 at *
   refine tKf 0 SYa0.out ?_
   refine tKf 1 SYa0.out ?_
   refine tKf 2 SYa0.out ?_
   refine tKf 3 SYa0.out ?_
   refine tKf 4 SYa0.out ?_
   refine tKf 5 SYa0.out ?_
   refine tKf 6 SYa0.out ?_
   refine tKf 9 SYa0.out ?_
   refine tKf 10 SYa0.out ?_
   refine tKf 11 SYa0.out ?_
   refine tKf 12 SYa0.out ?_
   refine tKf 13 SYa0.out ?_
   refine tKf 14 SYa0.out ?_
   refine uNe 7 (fun K hK => ?_)
   go_simp
   refine (cA _).mono ?_
   rintro e Ya1 ⟨rfl,hb⟩
   have DYa1 := hQz (DYa0.out.trans (hb.mono DYa0.out.size))
   have KYa1 := Hid.mk (KYa0.out.on hb KYa0.out.lt)
   clear hb SYa0 DYa0 KYa0
   go_wp2_with fail
   refine hK.out _ _ (fun _ _ => ⟨KYa1.out.cell 3 _ rfl,(DYa1.out.cell (p := ⟨_,_,none⟩) HG.out).trans HF.out.1,(DYa1.out.cell (p := ⟨_,_,none⟩) HG.out).trans HF.out.2⟩) ?_
   clear hK K
   try simp only [Act.put,zQ1,zQ2,zQ3]
   refine pUf 8 ?_
   refine uNe 15 (fun K hK => ?_)
   go_simp
   refine (cB _).mono ?_
   rintro e Ya2 ⟨rfl,hb⟩
   have DYa2 := hQz (DYa1.out.trans (hb.mono DYa1.out.size))
   have KYa2 := Hid.mk (KYa1.out.on hb KYa1.out.lt)
   clear hb DYa1 KYa1
   go_wp2_with fail
   refine hK.out _ _ (fun _ _ => ⟨KYa2.out.cell 3 _ rfl,(DYa2.out.cell (p := ⟨_,_,none⟩) HG.out).trans HF.out.1,(DYa2.out.cell (p := ⟨_,_,none⟩) HG.out).trans HF.out.2⟩) ?_
   clear hK K
   try simp only [Act.put,zQ1,zQ2,zQ3]
   refine pUf 16 ?_
   refine pUf 17 ?_
   refine until_done (by kernel_rfl) ?_ _
   go_wp2_with fail
   go_roundw
   case rel => exact ⟨k + 1,by omega,by go_num,by rw [HI.out],DYa2.out,KYa2.out⟩
   case measure => simp [intOf]; omega
  ·obtain rfl : k = nb := by omega
   have q4 : ¬ (k : Int) < (k : Int) := by omega
   rw [HAL.out.1]
   have kb3 := HK1.out.cell 3 _ rfl
   have y3 : (im1 x ++ catT bkT x.bks).size ≤ 1000 := by rw [← HAL.out.1,ByteArray.size_append]; have := HZ.out.1; have := HBT.out k; omega
   have cP := fun wx => specPiece (fileT x.eng.cache) wx (by have := HFT.out; omega)
   have y4 : (pcT (fileT x.eng.cache)).size ≤ 5011 := by have := pcT_size (fileT x.eng.cache); have := HFT.out; omega
   have HI : Hid (im1 x ++ catT bkT x.bks ++ im2 x = im1 x ++ catT bkT x.bks ++ t4 ++ pcT (fileT x.eng.cache) ++ t5) := by
    unfold Hid
    rw [HI2.out]
    simp only [ByteArray.append_assoc]
   have y5 : (im1 x ++ catT bkT x.bks ++ im2 x).size ≤ 7000 := by rw [ByteArray.size_append]; have := HZ.out.2; omega
   have HH2 : Hid (im1 x ++ catT bkT x.bks ++ im2 x ++ catT pcT x.eng.files ++ vT (x.ses.length : Int) ++ catT seT x.ses = imT x) := rfl
   generalize hq1 : im1 x ++ catT bkT x.bks = tt at *
   generalize pcT (fileT x.eng.cache) = tp at *
   generalize fileT x.eng.cache = tf at *
   clear hq1
   have p1 : ¬ 9223372036854775807 < tt.size + t4.size := by omega
   have p2 : ¬ 9223372036854775807 < tt.size + t4.size + tp.size := by omega
   have p3 : ¬ 9223372036854775807 < tt.size + t4.size + tp.size + t5.size := by omega
   go_wp2_with fail
   clear kb3
   have DYb0 : Hid (Below w.heap.size w wr.drew) := HB1.out.drew
   have KYb0 : Hid (Blk wr.drew gs #[.int .i64 (kn : Int),.int .i64 (hn : Int),.int .i64 (mn : Int),.slice Ab k cb,.int .i64 (fn : Int),.slice Ac nc cc,.slice Af nf cf,.slice As ns cs] 38) := HK1.out
   have SYb0 : Hid (wr.drew.cell? ⟨gs,4,none⟩ = some (.int .i64 (fn : Int)) ∧ wr.drew.cell? ⟨gs,5,none⟩ = some (.slice Ac nc cc) ∧ wr.drew.cell? ⟨gs,6,none⟩ = some (.slice Af nf cf)) := ⟨KYb0.out.cell 4 _ rfl,KYb0.out.cell 5 _ rfl,KYb0.out.cell 6 _ rfl⟩
   refine wp_region_until (fun w' => w'.cell? ⟨gs,4,none⟩ = some (.int .i64 (fn : Int)) ∧ w'.cell? ⟨gs,5,none⟩ = some (.slice Ac nc cc) ∧ w'.cell? ⟨gs,6,none⟩ = some (.slice Af nf cf)) (fun _ => false) 19 (by rfl) (by kernel_rfl) ?_
   clear HB1 HK1
   generalize wr.drew = Yb0 at *
   refine tKf 0 SYb0.out ?_
   refine tKf 1 SYb0.out ?_
   refine tKf 2 SYb0.out ?_
   refine tKf 3 SYb0.out ?_
   refine tKf 6 SYb0.out ?_
   refine tKf 7 SYb0.out ?_
   refine tKf 8 SYb0.out ?_
   refine tKf 12 SYb0.out ?_
   refine tKf 13 SYb0.out ?_
   refine tKf 14 SYb0.out ?_
   refine tKf 15 SYb0.out ?_
   refine uNe 4 (fun K hK => ?_)
   go_simp
   refine (cFl _).mono ?_
   rintro e Yb1 ⟨rfl,hb⟩
   have DYb1 := hQz (DYb0.out.trans (hb.mono DYb0.out.size))
   have KYb1 := Hid.mk (KYb0.out.on hb KYb0.out.lt)
   clear hb SYb0 DYb0 KYb0
   go_wp2_with fail
   refine hK.out _ _ (fun _ _ => ⟨KYb1.out.cell 4 _ rfl,KYb1.out.cell 5 _ rfl,KYb1.out.cell 6 _ rfl⟩) ?_
   clear hK K
   try simp only [Act.put,zQ1,zQ2,zQ3]
   refine pUf 5 ?_
   refine uNe 9 (fun K hK => ?_)
   go_simp
   refine (cF _ DYb1.out).mono ?_
   rintro e Yb2 ⟨rfl,hb⟩
   have DYb2 := hQz (DYb1.out.trans (hb.mono DYb1.out.size))
   have KYb2 := Hid.mk (KYb1.out.on hb KYb1.out.lt)
   clear hb DYb1 KYb1
   go_wp2_with fail
   refine hK.out _ _ (fun _ _ => ⟨KYb2.out.cell 4 _ rfl,KYb2.out.cell 5 _ rfl,KYb2.out.cell 6 _ rfl⟩) ?_
   clear hK K
   try simp only [Act.put,zQ1,zQ2,zQ3]
   refine uNe 10 (fun K hK => ?_)
   go_simp
   refine (cP _).mono ?_
   rintro e Yb3 ⟨rfl,hb⟩
   have DYb3 := hQz (DYb2.out.trans (hb.mono DYb2.out.size))
   have KYb3 := Hid.mk (KYb2.out.on hb KYb2.out.lt)
   clear hb DYb2 KYb2
   go_wp2_with fail
   refine hK.out _ _ (fun _ _ => ⟨KYb3.out.cell 4 _ rfl,KYb3.out.cell 5 _ rfl,KYb3.out.cell 6 _ rfl⟩) ?_
   clear hK K
   try simp only [Act.put,zQ1,zQ2,zQ3]
   refine pUf 11 ?_
   refine uNe 16 (fun K hK => ?_)
   go_simp
   refine (cNf _).mono ?_
   rintro e Yb4 ⟨rfl,hb⟩
   have DYb4 := hQz (DYb3.out.trans (hb.mono DYb3.out.size))
   have KYb4 := Hid.mk (KYb3.out.on hb KYb3.out.lt)
   clear hb DYb3 KYb3
   go_wp2_with fail
   refine hK.out _ _ (fun _ _ => ⟨KYb4.out.cell 4 _ rfl,KYb4.out.cell 5 _ rfl,KYb4.out.cell 6 _ rfl⟩) ?_
   clear hK K
   try simp only [Act.put,zQ1,zQ2,zQ3]
   refine pUf 17 ?_
   refine pUf 18 ?_
   refine until_done (by kernel_rfl) ?_ _
   have HI' : Hid (tt ++ t4 ++ tp ++ t5 = tt ++ im2 x) := HI.out.symm
   go_wp2_with fail
   go_loopw [3,5] (fun v3 v5 wr => ∃ j : Nat,j ≤ nf ∧ v5 = .int .i64 (j : Int) ∧ v3 = .string (tt ++ im2 x ++ catT pcT (x.eng.files.take j)) ∧ Below w.heap.size w wr ∧ Blk wr gs #[.int .i64 (kn : Int),.int .i64 (hn : Int),.int .i64 (mn : Int),.slice Ab k cb,.int .i64 (fn : Int),.slice Ac nc cc,.slice Af nf cf,.slice As ns cs] 38) (fun _ i _ => nf - (intOf i).toNat)
   case atStart => exact ⟨0,by omega,rfl,by rw [HI'.out]; simp [catT],DYb4.out,KYb4.out⟩
   case round =>
    obtain ⟨j,hj,rfl,rfl,hb,hkb⟩ := hrel
    have HB2 := hQz hb
    have HK2 := Hid.mk hkb
    clear hb hkb DYb4 KYb4
    have kb6 := HK2.out.cell 6 _ rfl
    by_cases hlt2 : j < nf
    ·have q5 : (j : Int) < (nf : Int) := by omega
     obtain ⟨g,off,rfl,hg,f1⟩ := HLF.out j (by have := HNN.out.2.2.1; omega)
     have hgw : g < w.heap.size := Nat.lt_of_lt_of_le hg HB.out
     have g1 := (HB2.out.cell (p := ⟨g,off + j,none⟩) hgw).trans f1
     have y6 := HFI.out _ (getD_in x.eng.files j (by have := HNN.out.2.2.1; omega))
     have HIj : Hid (tt ++ im2 x ++ catT pcT (x.eng.files.take (j + 1)) = tt ++ im2 x ++ catT pcT (x.eng.files.take j) ++ pcT (x.eng.files.getD j default)) := by
      unfold Hid
      rw [catT_snoc pcT x.eng.files j (by have := HNN.out.2.2.1; omega)]
      simp only [ByteArray.append_assoc]
     have y7 : (tt ++ im2 x ++ catT pcT (x.eng.files.take j)).size ≤ 30000 := by rw [ByteArray.size_append]; have := HFS.out j; omega
     have y8 := pcT_size (x.eng.files.getD j default)
     generalize x.eng.files.getD j default = fi at *
     have cP2 := fun wx => specPiece fi wx (by omega)
     generalize hq2 : tt ++ im2 x ++ catT pcT (x.eng.files.take j) = t7 at *
     generalize hq3 : pcT fi = t8 at *
     clear hq2 hq3 f1 hg hgw
     have p4 : ¬ 9223372036854775807 < t7.size + t8.size := by omega
     go_wp2_with fail
     refine (cP2 _).mono ?_
     rintro e Z1 ⟨rfl,hb⟩
     have DZ := hQz (HB2.out.trans (hb.mono HB2.out.size))
     have KZ := Hid.mk (HK2.out.on hb HK2.out.lt)
     clear hb g1 kb6
     go_wp2_with fail
     go_roundw
     case rel => exact ⟨j + 1,by omega,by go_num,by rw [HIj.out],DZ.out,KZ.out⟩
     case measure => simp [intOf]; omega
    ·obtain rfl : j = nf := by omega
     have q5 : ¬ (j : Int) < (j : Int) := by omega
     rw [HAL.out.2.1]
     have y7 : (tt ++ im2 x ++ catT pcT x.eng.files).size ≤ 30000 := by rw [ByteArray.size_append,← HAL.out.2.1]; have := HFS.out j; omega
     have HH3 : Hid (tt ++ im2 x ++ catT pcT x.eng.files ++ t6 ++ catT seT x.ses = imT x) := by unfold Hid; rw [← HI3.out]; exact HH2.out
     generalize hq2 : tt ++ im2 x ++ catT pcT x.eng.files = t7 at *
     clear hq2
     have kb7 := HK2.out.cell 7 _ rfl
     have p4 : ¬ 9223372036854775807 < t7.size + t6.size := by omega
     go_wp2_with fail
     refine (cNs _).mono ?_
     rintro e Z1 ⟨rfl,hb⟩
     have DZ := hQz (HB2.out.trans (hb.mono HB2.out.size))
     have KZ := Hid.mk (HK2.out.on hb HK2.out.lt)
     clear hb kb6 kb7 HB2 HK2
     go_wp2_with fail
     go_loopw [3,6] (fun v3 v6 wr => ∃ i : Nat,i ≤ ns ∧ v6 = .int .i64 (i : Int) ∧ v3 = .string (t7 ++ t6 ++ catT seT (x.ses.take i)) ∧ Below w.heap.size w wr ∧ Blk wr gs #[.int .i64 (kn : Int),.int .i64 (hn : Int),.int .i64 (mn : Int),.slice Ab k cb,.int .i64 (fn : Int),.slice Ac nc cc,.slice Af j cf,.slice As ns cs] 38) (fun _ i _ => ns - (intOf i).toNat)
     case atStart => exact ⟨0,by omega,rfl,by simp [catT],DZ.out,KZ.out⟩
     case round =>
      obtain ⟨i,hi,rfl,rfl,hb,hkb⟩ := hrel
      have HB3 := hQz hb
      have HK3 := Hid.mk hkb
      clear hb hkb DZ KZ
      have kb7 := HK3.out.cell 7 _ rfl
      by_cases hlt3 : i < ns
      ·have q6 : (i : Int) < (ns : Int) := by omega
       obtain ⟨g,off,rfl,hg,f1,f2,f3,f4,f5,f6⟩ := HLS.out i (by have := HNN.out.2.2.2; omega)
       have HG := hQz (Nat.lt_of_lt_of_le hg HB.out)
       obtain ⟨⟨c1,c2⟩,⟨c3,c4⟩,c5⟩ := HSE.out i (by have := HNN.out.2.2.2; omega)
       have HIi : Hid (t7 ++ t6 ++ catT seT (x.ses.take (i + 1)) = t7 ++ t6 ++ catT seT (x.ses.take i) ++ vT (x.ses.getD i default).client ++ vT (x.ses.getD i default).serial ++ pcT (ansT (x.ses.getD i default).ans)) := by
        unfold Hid
        rw [catT_snoc seT x.ses i (by have := HNN.out.2.2.2; omega)]
        unfold seT
        simp only [ByteArray.append_assoc]
       have y9 : (t7 ++ t6 ++ catT seT (x.ses.take i)).size ≤ 40000 := by rw [ByteArray.size_append,ByteArray.size_append]; have := HST.out i; omega
       generalize x.ses.getD i default = se at *
       obtain ⟨sc,sr,ak,ai,am,ad⟩ := se
       simp only at *
       obtain ⟨cn,rfl⟩ : ∃ n : Nat,sc = (n : Int) := ⟨_,(Int.toNat_of_nonneg c1).symm⟩
       obtain ⟨rn,rfl⟩ : ∃ n : Nat,sr = (n : Int) := ⟨_,(Int.toNat_of_nonneg c3).symm⟩
       have HF : Hid (w.cell? ⟨g,off + i * 6,none⟩ = some (.int .i64 (cn : Int)) ∧ w.cell? ⟨g,off + i * 6 + 1,none⟩ = some (.int .i64 (rn : Int)) ∧ w.cell? ⟨g,off + i * 6 + 2,none⟩ = some (.int .i64 ak) ∧ w.cell? ⟨g,off + i * 6 + 3,none⟩ = some (.int .i64 ai) ∧ w.cell? ⟨g,off + i * 6 + 4,none⟩ = some (.int .i64 am) ∧ w.cell? ⟨g,off + i * 6 + 5,none⟩ = some (.string ad)) := ⟨f1,f2,f3,f4,f5,f6⟩
       have e1 : vT (cn : Int) = txt (vF 6 cn) := by unfold vT; rw [Int.toNat_natCast]
       have e2 : vT (rn : Int) = txt (vF 6 rn) := by unfold vT; rw [Int.toNat_natCast]
       rw [e1,e2] at HIi
       clear e1 e2 f1 f2 f3 f4 f5 f6 hg
       have hd : (Ses.ans ⟨(cn : Int),(rn : Int),ak,ai,am,ad⟩).data.size ≤ 900 := (ansOk_in c5).2.2.2
       have cS := fun wx => specShowAnswer (Ses.ans ⟨(cn : Int),(rn : Int),ak,ai,am,ad⟩) wx (by unfold maxLen; omega)
       have z1 := ansT_size (Ses.ans ⟨(cn : Int),(rn : Int),ak,ai,am,ad⟩)
       have z2 := pcT_size (ansT (Ses.ans ⟨(cn : Int),(rn : Int),ak,ai,am,ad⟩))
       unfold Ses.ans at *
       unfold vAns at cS
       simp only at cS hd
       generalize ansT ⟨ak,ai,am,ad⟩ = ta at *
       have cP3 := fun wx => specPiece ta wx (by omega)
       have cA := fun wx => spec_var cn wx (by omega)
       have cB := fun wx => spec_var rn wx (by omega)
       have y1 : (txt (vF 6 cn)).size ≤ 7 := by rw [txt_size]; exact vF_length 6 _
       have y2 : (txt (vF 6 rn)).size ≤ 7 := by rw [txt_size]; exact vF_length 6 _
       generalize hq4 : t7 ++ t6 ++ catT seT (x.ses.take i) = u0 at *
       generalize txt (vF 6 cn) = u1 at *
       generalize txt (vF 6 rn) = u2 at *
       generalize hq5 : pcT ta = u3 at *
       clear hq4 hq5 c1 c2 c3 c4 c5
       have p5 : ¬ 9223372036854775807 < u0.size + u1.size := by omega
       have p6 : ¬ 9223372036854775807 < u0.size + u1.size + u2.size := by omega
       have p7 : ¬ 9223372036854775807 < u0.size + u1.size + u2.size + u3.size := by omega
       go_wp2_with fail
       clear kb7
       have DYc0 : Hid (Below w.heap.size w wr.drew) := HB3.out.drew
       have KYc0 : Hid (Blk wr.drew gs #[.int .i64 (kn : Int),.int .i64 (hn : Int),.int .i64 (mn : Int),.slice Ab k cb,.int .i64 (fn : Int),.slice Ac nc cc,.slice Af j cf,.slice (some ⟨g,off,none⟩) ns cs] 38) := HK3.out
       have SYc0 : Hid (wr.drew.cell? ⟨gs,7,none⟩ = some (.slice (some ⟨g,off,none⟩) ns cs) ∧ wr.drew.cell? ⟨g,off + i * 6,none⟩ = some (.int .i64 (cn : Int)) ∧ wr.drew.cell? ⟨g,off + i * 6 + 1,none⟩ = some (.int .i64 (rn : Int)) ∧ wr.drew.cell? ⟨g,off + i * 6 + 2,none⟩ = some (.int .i64 ak) ∧ wr.drew.cell? ⟨g,off + i * 6 + 3,none⟩ = some (.int .i64 ai) ∧ wr.drew.cell? ⟨g,off + i * 6 + 4,none⟩ = some (.int .i64 am) ∧ wr.drew.cell? ⟨g,off + i * 6 + 5,none⟩ = some (.string ad)) := ⟨KYc0.out.cell 7 _ rfl,(DYc0.out.cell (p := ⟨_,_,none⟩) HG.out).trans HF.out.1,(DYc0.out.cell (p := ⟨_,_,none⟩) HG.out).trans HF.out.2.1,(DYc0.out.cell (p := ⟨_,_,none⟩) HG.out).trans HF.out.2.2.1,(DYc0.out.cell (p := ⟨_,_,none⟩) HG.out).trans HF.out.2.2.2.1,(DYc0.out.cell (p := ⟨_,_,none⟩) HG.out).trans HF.out.2.2.2.2.1,(DYc0.out.cell (p := ⟨_,_,none⟩) HG.out).trans HF.out.2.2.2.2.2⟩
       refine wp_region_until (fun w' => w'.cell? ⟨gs,7,none⟩ = some (.slice (some ⟨g,off,none⟩) ns cs) ∧ w'.cell? ⟨g,off + i * 6,none⟩ = some (.int .i64 (cn : Int)) ∧ w'.cell? ⟨g,off + i * 6 + 1,none⟩ = some (.int .i64 (rn : Int)) ∧ w'.cell? ⟨g,off + i * 6 + 2,none⟩ = some (.int .i64 ak) ∧ w'.cell? ⟨g,off + i * 6 + 3,none⟩ = some (.int .i64 ai) ∧ w'.cell? ⟨g,off + i * 6 + 4,none⟩ = some (.int .i64 am) ∧ w'.cell? ⟨g,off + i * 6 + 5,none⟩ = some (.string ad)) (fun _ => false) 27 (by rfl) (by kernel_rfl) ?_
       clear HB3 HK3
       generalize wr.drew = Yc0 at *
       refine tKf 0 SYc0.out ?_
       refine tKf 1 SYc0.out ?_
       refine tKf 2 SYc0.out ?_
       refine tKf 3 SYc0.out ?_
       refine tKf 4 SYc0.out ?_
       refine tKf 5 SYc0.out ?_
       refine tKf 6 SYc0.out ?_
       refine tKf 9 SYc0.out ?_
       refine tKf 10 SYc0.out ?_
       refine tKf 11 SYc0.out ?_
       refine tKf 12 SYc0.out ?_
       refine tKf 13 SYc0.out ?_
       refine tKf 14 SYc0.out ?_
       refine tKf 17 SYc0.out ?_
       refine tKf 18 SYc0.out ?_
       refine tKf 19 SYc0.out ?_
       refine tKf 20 SYc0.out ?_
       refine tKf 21 SYc0.out ?_
       refine tKf 22 SYc0.out ?_
       refine uNe 7 (fun K hK => ?_)
       go_simp
       refine (cA _).mono ?_
       rintro e Yc1 ⟨rfl,hb⟩
       have DYc1 := hQz (DYc0.out.trans (hb.mono DYc0.out.size))
       have KYc1 := Hid.mk (KYc0.out.on hb KYc0.out.lt)
       clear hb SYc0 DYc0 KYc0
       go_wp2_with fail
       refine hK.out _ _ (fun _ _ => ⟨KYc1.out.cell 7 _ rfl,(DYc1.out.cell (p := ⟨_,_,none⟩) HG.out).trans HF.out.1,(DYc1.out.cell (p := ⟨_,_,none⟩) HG.out).trans HF.out.2.1,(DYc1.out.cell (p := ⟨_,_,none⟩) HG.out).trans HF.out.2.2.1,(DYc1.out.cell (p := ⟨_,_,none⟩) HG.out).trans HF.out.2.2.2.1,(DYc1.out.cell (p := ⟨_,_,none⟩) HG.out).trans HF.out.2.2.2.2.1,(DYc1.out.cell (p := ⟨_,_,none⟩) HG.out).trans HF.out.2.2.2.2.2⟩) ?_
       clear hK K
       try simp only [Act.put,zQ1,zQ2,zQ3]
       refine pUf 8 ?_
       refine uNe 15 (fun K hK => ?_)
       go_simp
       refine (cB _).mono ?_
       rintro e Yc2 ⟨rfl,hb⟩
       have DYc2 := hQz (DYc1.out.trans (hb.mono DYc1.out.size))
       have KYc2 := Hid.mk (KYc1.out.on hb KYc1.out.lt)
       clear hb DYc1 KYc1
       go_wp2_with fail
       refine hK.out _ _ (fun _ _ => ⟨KYc2.out.cell 7 _ rfl,(DYc2.out.cell (p := ⟨_,_,none⟩) HG.out).trans HF.out.1,(DYc2.out.cell (p := ⟨_,_,none⟩) HG.out).trans HF.out.2.1,(DYc2.out.cell (p := ⟨_,_,none⟩) HG.out).trans HF.out.2.2.1,(DYc2.out.cell (p := ⟨_,_,none⟩) HG.out).trans HF.out.2.2.2.1,(DYc2.out.cell (p := ⟨_,_,none⟩) HG.out).trans HF.out.2.2.2.2.1,(DYc2.out.cell (p := ⟨_,_,none⟩) HG.out).trans HF.out.2.2.2.2.2⟩) ?_
       clear hK K
       try simp only [Act.put,zQ1,zQ2,zQ3]
       refine pUf 16 ?_
       refine uNe 23 (fun K hK => ?_)
       go_simp
       refine (cS _).mono ?_
       rintro e Yc3 ⟨rfl,hb⟩
       have DYc3 := hQz (DYc2.out.trans (hb.mono DYc2.out.size))
       have KYc3 := Hid.mk (KYc2.out.on hb KYc2.out.lt)
       clear hb DYc2 KYc2
       go_wp2_with fail
       refine hK.out _ _ (fun _ _ => ⟨KYc3.out.cell 7 _ rfl,(DYc3.out.cell (p := ⟨_,_,none⟩) HG.out).trans HF.out.1,(DYc3.out.cell (p := ⟨_,_,none⟩) HG.out).trans HF.out.2.1,(DYc3.out.cell (p := ⟨_,_,none⟩) HG.out).trans HF.out.2.2.1,(DYc3.out.cell (p := ⟨_,_,none⟩) HG.out).trans HF.out.2.2.2.1,(DYc3.out.cell (p := ⟨_,_,none⟩) HG.out).trans HF.out.2.2.2.2.1,(DYc3.out.cell (p := ⟨_,_,none⟩) HG.out).trans HF.out.2.2.2.2.2⟩) ?_
       clear hK K
       try simp only [Act.put,zQ1,zQ2,zQ3]
       refine uNe 24 (fun K hK => ?_)
       go_simp
       refine (cP3 _).mono ?_
       rintro e Yc4 ⟨rfl,hb⟩
       have DYc4 := hQz (DYc3.out.trans (hb.mono DYc3.out.size))
       have KYc4 := Hid.mk (KYc3.out.on hb KYc3.out.lt)
       clear hb DYc3 KYc3
       go_wp2_with fail
       refine hK.out _ _ (fun _ _ => ⟨KYc4.out.cell 7 _ rfl,(DYc4.out.cell (p := ⟨_,_,none⟩) HG.out).trans HF.out.1,(DYc4.out.cell (p := ⟨_,_,none⟩) HG.out).trans HF.out.2.1,(DYc4.out.cell (p := ⟨_,_,none⟩) HG.out).trans HF.out.2.2.1,(DYc4.out.cell (p := ⟨_,_,none⟩) HG.out).trans HF.out.2.2.2.1,(DYc4.out.cell (p := ⟨_,_,none⟩) HG.out).trans HF.out.2.2.2.2.1,(DYc4.out.cell (p := ⟨_,_,none⟩) HG.out).trans HF.out.2.2.2.2.2⟩) ?_
       clear hK K
       try simp only [Act.put,zQ1,zQ2,zQ3]
       refine pUf 25 ?_
       refine pUf 26 ?_
       refine until_done (by kernel_rfl) ?_ _
       go_wp2_with fail
       go_roundw
       case rel => exact ⟨i + 1,by omega,by go_num,by rw [HIi.out],DYc4.out,KYc4.out⟩
       case measure => simp [intOf]; omega
      ·obtain rfl : i = ns := by omega
       have q6 : ¬ (i : Int) < (i : Int) := by omega
       rw [HAL.out.2.2]
       have HH4 : Hid (imT x = t7 ++ t6 ++ catT seT x.ses) := HH3.out.symm
       go_wp2_with fail
       go_ret
       exact ⟨by rw [HE.out,HH4.out]; rfl,HB3.out⟩
theorem RdL.allQ {α : Type} {P : Nat → α → Nat → Prop} {R : α → Prop} (hP : ∀ a y n,P a y n → R y) {a : Nat} : ∀ {k : Nat} {l : List α} {n : Nat},RdL P a k l n → ∀ y ∈ l,R y
 | 0,_,_,h,y,hy => by rw [h.1] at hy; cases hy
 | k + 1,_,_,⟨l,b,z,h1,h2,h3⟩,y,hy => by
  rw [h3] at hy
  rcases List.mem_append.1 hy with hy | hy
  ·exact RdL.allQ hP h1 y hy
  ·simp at hy
   rw [hy]
   exact hP _ _ _ h2
theorem SOk.memQ {l : List Ser} (h : SOk l) : ∀ x ∈ l,x.pts.length ≤ 60 ∧ x.key.size ≤ 8 := by
 intro x hx
 obtain ⟨j,hj,rfl⟩ := List.getElem_of_mem hx
 have h1 := h.2 j hj
 have e : sAt l j = l[j] := by unfold sAt; rw [List.getD_eq_getElem?_getD,List.getElem?_eq_getElem hj]; rfl
 rw [e] at h1
 exact ⟨h1.2.2.1,h1.1.1.2.1⟩
theorem StaP.shortQ {s : ByteArray} {x : Sta} {c : ByteArray} (h : StaP s x c) (hc : CaSp c x.eng.cache) (hs : s.size ≤ 1048576) : StShort x := by
 obtain ⟨n1,n2,n3,n4,n5,n6,n7,h1,h2,h3,h4,h5,h6,h8,h9,h10,h11,h12,h13⟩ := h
 have hk : ∀ y ∈ x.eng.cache,y.pts.length ≤ 60 ∧ y.key.size ≤ 8 := by
  rcases hc with ⟨_,e⟩ | ⟨_,hg | ⟨e,_⟩⟩
  ·rw [e]; intro y hy; cases hy
  ·exact hg.2.1.memQ
  ·rw [e]; intro y hy; cases hy
 have hl : x.eng.cache.length ≤ 5 := by
  rcases hc with ⟨_,e⟩ | ⟨_,hg | ⟨e,_⟩⟩
  ·rw [e]; exact Nat.zero_le _
  ·exact hg.2.1.1
  ·rw [e]; exact Nat.zero_le _
 refine ⟨by omega,⟨⟨by omega,fun y hy => by have := (hk y hy).1; omega⟩,fun y hy => by have := (hk y hy).2; unfold maxLen; omega,by omega,?_⟩,by omega,?_⟩
 ·refine RdL.allQ (R := fun f => f.size ≤ 1048576) ?_ h10
  rintro a y n ⟨b,_,e2,e3,_⟩
  omega
 ·refine RdL.allQ (R := fun (y : Ses) => y.data.size ≤ 1048576) ?_ h13
  rintro a y n ⟨b,t,_,_,hy⟩
  obtain ⟨_,_,_,_,_,_,ho⟩ := hy
  have := (ansOk_in ho).2.2.2
  have e : y.ans.data = y.data := rfl
  rw [e] at this
  omega
theorem StaP.some {s : ByteArray} {x : Sta} {c : ByteArray} (h : StaP s x c) : ¬ s.toList = [] ∧ 1 ≤ s.size := by
 obtain ⟨n1,_,_,_,_,_,_,h1,_⟩ := h
 have h2 := h1.inS
 refine ⟨fun e => ?_,by omega⟩
 rw [Lib.toList_data] at e
 have : s.size = 0 := by show s.data.size = 0; rw [← Array.length_toList,e]; rfl
 omega
theorem StaP.same {s : ByteArray} {x y : Sta} {c d : ByteArray} (h : StaP s x c) (h' : StaP s y d) : c = d ∧ x.kind = y.kind ∧ x.hold = y.hold ∧ x.mark = y.mark ∧ x.bks = y.bks ∧ x.eng.floor = y.eng.floor ∧ x.eng.files = y.eng.files ∧ x.ses = y.ses := by
 obtain ⟨n1,n2,n3,n4,n5,n6,n7,h1,h2,h3,h4,h5,h6,h8,h9,h10,h11,h12,h13⟩ := h
 obtain ⟨m1,m2,m3,m4,m5,m6,m7,g1,g2,g3,g4,g5,g6,g8,g9,g10,g11,g12,g13⟩ := h'
 obtain ⟨e,rfl⟩ := h1.one g1
 simp only [List.cons.injEq,and_true] at e
 have el : x.bks.length = y.bks.length := by omega
 rw [el] at h4
 obtain ⟨eb,rfl⟩ := h4.one (BkRd.onep s) g4
 obtain ⟨ef,rfl⟩ := h5.one g5
 simp only [List.cons.injEq,and_true] at ef
 obtain ⟨rfl,rfl⟩ := PcRd.onep s _ _ _ _ _ h6 g6
 obtain ⟨e2,rfl⟩ := h8.one g8
 simp only [List.cons.injEq,and_true] at e2
 have el2 : x.eng.files.length = y.eng.files.length := by omega
 rw [el2] at h10
 obtain ⟨efi,rfl⟩ := h10.one (PcRd.onep s) g10
 obtain ⟨e3,rfl⟩ := h11.one g11
 simp only [List.cons.injEq,and_true] at e3
 have el3 : x.ses.length = y.ses.length := by omega
 rw [el3] at h13
 exact ⟨rfl,by rw [h2,g2],e.1,e.2.1,eb,ef,efi,(h13.one (SeRd.onep s) g13).1⟩
theorem StaRd.one {s : ByteArray} {x y : Sta} (h : StaRd s x) (h' : StaRd s y) : x = y := by
 obtain ⟨⟨c,h1,h2⟩,_⟩ := h
 obtain ⟨⟨d,g1,g2⟩,_⟩ := h'
 obtain ⟨rfl,e1,e2,e3,e4,e5,e6,e7⟩ := h1.same g1
 have ec : x.eng.cache = y.eng.cache := by
  rcases h2 with ⟨a,b⟩ | ⟨a,b⟩
  ·rcases g2 with ⟨a',b'⟩ | ⟨a',b'⟩
   ·rw [b,b']
   ·exact absurd a a'
  ·rcases g2 with ⟨a',b'⟩ | ⟨a',b'⟩
   ·exact absurd a' a
   ·exact b.one b'
 obtain ⟨k,h,m,b,⟨f,ca,fs⟩,se⟩ := x
 obtain ⟨k',h',m',b',⟨f',ca',fs'⟩,se'⟩ := y
 simp only at e1 e2 e3 e4 e5 e6 e7 ec
 subst e1 e2 e3 e4 e5 e6 e7 ec
 rfl
theorem asked {s : ByteArray} {x : Sta} {c : ByteArray} (h : StaP s x c) (hc : CaSp c x.eng.cache) : (staT x = s → StaRd s x) ∧ (¬ staT x = s → ∀ y,¬ StaRd s y) := by
 refine ⟨fun e => ?_,fun hn y hy => ?_⟩
 ·cases ho : staOk x with
  | false =>
   rw [staT_no ho] at e
   have h1 := h.some.2
   rw [← e] at h1
   exact absurd h1 (by decide)
  | true =>
   rw [staT_yes ho] at e
   by_cases hr : CaRd c x.eng.cache
   ·exact ⟨⟨c,h,hr⟩,ho⟩
   ·exact absurd e (not_text h hc hr)
 ·obtain ⟨⟨d,g1,g2⟩,g3⟩ := hy
  obtain ⟨rfl,e1,e2,e3,e4,e5,e6,e7⟩ := h.same g1
  have ec : x.eng.cache = y.eng.cache := by
   rcases hc with ⟨a,b⟩ | ⟨a,b⟩
   ·rcases g2 with ⟨a',b'⟩ | ⟨a',b'⟩
    ·rw [b,b']
    ·exact absurd a a'
   ·rcases g2 with ⟨a',b'⟩ | ⟨a',b'⟩
    ·exact absurd a' a
    ·rcases b with b | ⟨_,b⟩
     ·exact b.one b'
     ·exact absurd b' (b _)
  have exy : x = y := by
   obtain ⟨k,h,m,b,⟨f,ca,fs⟩,se⟩ := x
   obtain ⟨k',h',m',b',⟨f',ca',fs'⟩,se'⟩ := y
   simp only at e1 e2 e3 e4 e5 e6 e7 ec
   subst e1 e2 e3 e4 e5 e6 e7 ec
   rfl
  subst exy
  exact hn (StaRd.text ⟨⟨_,g1,g2⟩,g3⟩)
end Go.Proofs.YthhamlahdjokkaaGreatDoor
