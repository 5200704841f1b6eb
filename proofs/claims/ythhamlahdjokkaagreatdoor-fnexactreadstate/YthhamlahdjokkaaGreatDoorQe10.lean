/- StrLaw SrMk SrMkG StrEqL EgL1 EgL2 BuOf EgS1 EgS3 FlMathS BkReadS -/
import Derived.Test.YthhamlahdjokkaaGreatDoorQe9
open List (setIfInBounds_toArray set_cons_zero set_cons_succ)
namespace Go.Proofs.YthhamlahdjokkaaGreatDoor
open Go.ChangeShapes Go.WideShapes Go.ChangeAt Go.RowKit Go.PlainAid
set_option linter.unusedVariables false
set_option maxHeartbeats 400000 in
theorem markText (k : Nat) (w : World) (h1 : 1 ≤ k) (h2 : k ≤ 1000000000) :
  Calls Tryz.prog 96 #[.int .i64 (k : Int)] w fun e w' => e = .returned (.string (mark k)) ∧ Below w.heap.size w w' := by
 have q1 : (1 : Int) ≤ (k : Int) := by omega
 have q0 : decide ((k : Int) ≤ 0) = false := decide_eq_false (by omega)
 have q2 : ¬ (k : Int) ≤ 0 := by omega
 go_enter Tryz.func96,Tryz.ntmps96
 go_wp2
 go_loopw [0,3] (fun v0 v3 wr => ∃ (m f : Nat) (out : List UInt8),v0 = .int .i64 m ∧ m ≤ 1000000000 ∧ m < 10 ^ f ∧ v3 = .string (txt out) ∧ dg f m ++ out = dg 20 k ∧ f + out.length ≤ 20 ∧ Below w.heap.size w wr) (fun i _ _ => (intOf i).toNat)
 case atStart => exact ⟨k,20,[],rfl,h2,by omega,rfl,by simp,by simp,Below.refl _ _⟩
 case round =>
  obtain ⟨m,f,out,rfl,hm,hf,rfl,hd,hl,hb⟩ := hrel
  have HD : Hid (dg f m ++ out = dg 20 k) := hd
  have HF : Hid (m < 10 ^ f) := hf
  clear hd hf
  by_cases hp : (0 : Int) < (m : Int)
  ·obtain ⟨f',rfl⟩ : ∃ f',f = f' + 1 := by
    cases f with
    | zero => have := HF.out; simp at this; omega
    | succ f' => exact ⟨f',rfl⟩
   have e1 : (48 + (m : Int) % 10) % 256 = (((48 + m % 10) % 256 : Nat) : Int) := by omega
   have e2 : (48 + (m : Int) % 10) = (((48 + m % 10) % 256 : Nat) : Int) := by omega
   have hc : ∀ wx : World,(convert 68 9 (.slice (some ⟨wx.heap.size,0,none⟩) 1 1)).run Tryz.prog (wx.alloc (.cells #[.int .u8 (48 + (m : Int) % 10)] 5)) = .ok (.string (txt [byt (48 + m % 10)])) (wx.alloc (.cells #[.int .u8 (48 + (m : Int) % 10)] 5)) := by
    intro wx; rw [e2]; exact run_one_byte wx 68 9 5 Tryz.underlying68 Tryz.underlying5 Tryz.underlying9 (48 + m % 10) 1
   clear e1 e2
   have hz1 : (txt [byt (48 + m % 10)]).size = 1 := rfl
   have hz2 : (txt out).size = out.length := txt_size out
   have hsum : (txt [byt (48 + m % 10)]).size + (txt out).size ≤ 9223372036854775807 := by omega
   clear hz1 hz2
   go_wp2
   go_roundw
   case rel =>
    refine ⟨m / 10,f',[byt (48 + m % 10)] ++ out,by go_num,by omega,?_,by rw [txt_cat],?_,by simp; omega,hb.alloc (by have := hb.size; omega) _⟩
    ·have := HF.out
     rw [Nat.pow_succ] at this
     omega
    ·have := HD.out
     rw [dg,if_neg (by omega)] at this
     rw [← this]
     simp
   case measure => simp [intOf]; omega
  ·have hm0 : m = 0 := by omega
   subst hm0
   have hz2 : (txt out).size = out.length := txt_size out
   have hz3 : (⟨#[109]⟩ : ByteArray).size = 1 := rfl
   have hsum : (⟨#[109]⟩ : ByteArray).size + (txt out).size ≤ 9223372036854775807 := by omega
   clear hz2 hz3
   go_wp2
   go_ret
   refine ⟨?_,hb⟩
   have := HD.out
   rw [dg_zero,List.nil_append] at this
   rw [this]
   rfl
def kAt (k : Nat) (L : List (Ser × Value)) : Nat → Nat
 | 0 => k
 | j + 1 => kAt k L j + 1 + 2 * (L.getD j default).1.pts.length
theorem kAt_le {k : Nat} {L : List (Ser × Value)} (h : ∀ q ∈ L,q.1.pts.length ≤ 60) : ∀ j,j ≤ L.length → k ≤ kAt k L j ∧ kAt k L j ≤ k + 121 * j
 | 0,_ => ⟨Nat.le_refl _,by simp [kAt]⟩
 | j + 1,hj => by
  have ih := kAt_le (k := k) h j (by omega)
  have := h _ (getD_mem L j (by omega))
  rw [kAt]
  omega
def smR (k : Nat) (L : List (Ser × Value)) (j : Nat) : List Value := [.string (mark (kAt k L j)),(L.getD j default).2]
def SMk (w : World) (base k : Nat) (v : Value) (L : List (Ser × Value)) : Prop := Owns w base 101 2 v (newR (smR k L) L.length) ∧ ∀ j,j < L.length → Owns w base 98 2 (L.getD j default).2 (newR (mkPt (kAt k L j + 1)) (L.getD j default).1.pts.length)
theorem SMk.on {w w' : World} {base k : Nat} {v : Value} {L : List (Ser × Value)} (h : SMk w base k v L) (hb : Below w.heap.size w w') : SMk w' base k v L := ⟨h.1.on hb,fun j hj => (h.2 j hj).on hb⟩
theorem apart_get {L : List (Ser × Value)} (h : L.Pairwise fun p q => Apart p.2 q.2) (i j : Nat) (hi : i < L.length) (hj : j < L.length) (hne : i ≠ j) : Apart (L.getD i default).2 (L.getD j default).2 := by
 rw [List.pairwise_iff_getElem] at h
 rw [← getD_at L i hi,← getD_at L j hj]
 rcases Nat.lt_or_ge i j with hl | hl
 ·exact h i j hi hj hl
 ·exact (h j i hj hi (by omega)).symm
theorem srR_get (L : List (Ser × Value)) (j : Nat) (hj : j < (srR L).length) : (srR L)[j] = [.string (L.getD j default).1.key,(L.getD j default).2] := by
 have hj' : j < L.length := by rw [srR_length] at hj; exact hj
 rw [← getD_at L j hj']
 simp [srR,srC]
theorem partR_at (f : Nat → List Value) (R : List (List Value)) (j : Nat) (hj : j < R.length) (h' : j < (partR f R j).length) : (partR f R j)[j]'h' = R[j] := by
 have e : (partR f R j)[j]? = R[j]? := by
  unfold partR
  rw [List.getElem?_append_right (by rw [newR_length]; exact Nat.le_refl _),newR_length,Nat.sub_self,List.getElem?_drop]
  simp
 rw [List.getElem?_eq_getElem h',List.getElem?_eq_getElem hj] at e
 exact Option.some.inj e
theorem partR_was (f : Nat → List Value) (R : List (List Value)) (j : Nat) (h' : j < (partR f R (j + 1)).length) : (partR f R (j + 1))[j]'h' = f j := by
 have e : (partR f R (j + 1))[j]? = some (f j) := by
  unfold partR
  rw [List.getElem?_append_left (by rw [newR_length]; omega)]
  simp [newR]
 rw [List.getElem?_eq_getElem h'] at e
 exact Option.some.inj e
theorem sm_look {w : World} {B k : Nat} {v : Value} {L : List (Ser × Value)} (h : Lies w B 2 v (newR (smR k L) L.length)) : ∃ A cap,v = .slice A L.length cap ∧ ∀ j,j < L.length → ∃ g off,A = some ⟨g,off,none⟩ ∧ g < B ∧ w.cell? ⟨g,off + j * 2,none⟩ = some (.string (mark (kAt k L j))) ∧ w.cell? ⟨g,off + j * 2 + 1,none⟩ = some (L.getD j default).2 := by
 obtain ⟨A,cap,e,h⟩ := h.look
 rw [newR_length] at e
 refine ⟨A,cap,e,fun j hj => ?_⟩
 obtain ⟨g,off,e,hg,hc⟩ := h j (by rw [newR_length]; exact hj)
 have hr : (newR (smR k L) L.length)[j]'(by rw [newR_length]; exact hj) = smR k L j := by simp [newR]
 rw [hr] at hc
 refine ⟨g,off,e,hg,?_,?_⟩
 ·have := hc 0 _ (by omega) rfl; simpa [Nat.add_assoc] using this
 ·have := hc 1 _ (by omega) rfl; simpa [Nat.add_assoc] using this
set_option maxHeartbeats 4000000 in
theorem heldSeriesS (k base : Nat) (v : Value) (L : List (Ser × Value)) (w : World) (hv : SMk w base k v L) (hl : L.length ≤ 5) (hp : ∀ q ∈ L,q.1.pts.length ≤ 60) (h1 : 1 ≤ k) (h2 : k ≤ 1000) :
  Calls Tryz.prog 97 #[v,.int .i64 (k : Int)] w fun e w' => e = .returned (.int .i64 (kAt k L L.length : Int)) ∧ Below w.heap.size w w' := by
 obtain ⟨A,ca,e0,hlk⟩ := sm_look hv.1.lies
 subst e0
 have HLK : Hid (∀ j,j < L.length → ∃ g off,A = some ⟨g,off,none⟩ ∧ g < w.heap.size ∧ w.cell? ⟨g,off + j * 2,none⟩ = some (.string (mark (kAt k L j))) ∧ w.cell? ⟨g,off + j * 2 + 1,none⟩ = some (L.getD j default).2) := hlk
 have HPt : Hid (∀ j,j < L.length → Owns w base 98 2 (L.getD j default).2 (newR (mkPt (kAt k L j + 1)) (L.getD j default).1.pts.length)) := hv.2
 have HP : Hid (∀ q ∈ L,q.1.pts.length ≤ 60) := hp
 have HK : Hid (∀ j,j ≤ L.length → k ≤ kAt k L j ∧ kAt k L j ≤ k + 121 * j) := kAt_le hp
 have q1 : (L.length : Int) ≤ 5 := by omega
 have HK1 : Hid (1 ≤ k ∧ k ≤ 1000) := ⟨h1,h2⟩
 clear hv hp hl h1 h2 hlk
 generalize hn : L.length = n at *
 have HN : Hid (L.length = n) := hn
 clear hn
 go_enter Tryz.func97,Tryz.ntmps97
 go_wp2_with fail
 go_loopw [1,5] (fun v1 v5 wr => ∃ j : Nat,j ≤ n ∧ v5 = .int .i64 (j : Int) ∧ v1 = .int .i64 (kAt k L j : Int) ∧ Below w.heap.size w wr) (fun _ i _ => n - (intOf i).toNat)
 case atStart => exact ⟨0,by omega,rfl,rfl,Below.refl _ _⟩
 case round =>
  obtain ⟨j,hj,rfl,rfl,hB⟩ := hrel
  have HB := hQz hB
  clear hB
  by_cases hlt : j < n
  ·have q2 : (j : Int) < (n : Int) := by omega
   obtain ⟨g,off,rfl,hg,d0,d1⟩ := HLK.out j hlt
   have hkj := HK.out j (by omega)
   have HKs : Hid (kAt k L (j + 1) = kAt k L j + 1 + 2 * (L.getD j default).1.pts.length) := by unfold Hid; rw [kAt]
   have hpj := HP.out _ (getD_mem L j (by rw [HN.out]; exact hlt))
   have HPj : Hid (kAt k L j ≤ 2000 ∧ 1 ≤ kAt k L j ∧ (L.getD j default).1.pts.length ≤ 60) := ⟨by have := HK1.out; omega,by have := HK1.out; omega,hpj⟩
   have hOj := HPt.out j hlt
   obtain ⟨Aj,nj,cj,euj⟩ := hOj.shape
   rw [euj] at hOj d1
   have HOj : Hid (Owns w base 98 2 (.slice Aj nj cj) (newR (mkPt (kAt k L j + 1)) (L.getD j default).1.pts.length)) := hOj
   have HG : Hid (g < w.heap.size) := hg
   have D0 : Hid (w.cell? ⟨g,off + j * 2,none⟩ = some (.string (mark (kAt k L j)))) := d0
   have D1 : Hid (w.cell? ⟨g,off + j * 2 + 1,none⟩ = some (.slice Aj nj cj)) := d1
   have cm := markText (kAt k L j) wr.drew (by have := HPj.out; omega) (by have := HPj.out; omega)
   have S0 : Hid (wr.drew.cell? ⟨g,off + j * 2,none⟩ = some (.string (mark (kAt k L j)))) := (HB.out.cell (p := ⟨g,off + j * 2,none⟩) hg).trans d0
   have hq5 : kAt k L j ≤ 2000 := HPj.out.1
   clear euj hpj hkj hOj hg d0 d1
   generalize hkk : kAt k L j = kk at *
   have HKK : Hid (kAt k L j = kk) := hkk
   clear hkk
   generalize hmk : mark kk = mt at *
   clear hmk
   have q5 : (kk : Int) ≤ 2000 := by omega
   go_wp2_with fail
   refine wp_region_until (fun w' => w'.cell? ⟨g,off + j * 2,none⟩ = some (.string mt)) (fun _ => false) 8 (by rfl) (by kernel_rfl) ?_
   refine tKf 0 S0.out ?_
   refine tKf 1 S0.out ?_
   refine tKf 2 S0.out ?_
   refine tKf 3 S0.out ?_
   refine tKf 4 S0.out ?_
   refine tKf 5 S0.out ?_
   refine uNe 6 (fun K hK => ?_)
   go_simp
   refine cm.mono ?_
   rintro e Y1 ⟨rfl,hb1⟩
   have B1 := hQz (HB.out.drew.trans (hb1.mono HB.out.size))
   clear hb1 cm
   go_wp2_with fail
   refine hK.out _ _ (fun _ _ => (B1.out.cell (p := ⟨g,off + j * 2,none⟩) HG.out).trans D0.out) ?_
   clear hK K
   try simp only [Act.put,zQ1,zQ2,zQ3]
   refine pUf 7 ?_
   refine until_done (by kernel_rfl) ?_ _
   have m1 := (B1.out.cell (p := ⟨g,off + j * 2 + 1,none⟩) HG.out).trans D1.out
   have ch := heldPointS (kk + 1) (L.getD j default).1.pts.length (.slice Aj nj cj) Y1 Y1.heap.size ((HOj.out.on B1.out).lies) (by have := HPj.out; omega) (by have := HPj.out; omega)
   have hcast : (((kk + 1 : Nat)) : Int) = (kk : Int) + 1 := by omega
   rw [hcast] at ch
   have HKc : Hid ((((kk + 1 + 2 * (L.getD j default).1.pts.length : Nat)) : Int) = (kAt k L (j + 1) : Int)) := by unfold Hid; rw [HKs.out]
   have q6 : (0 : Int) ≤ ((kk + 1 + 2 * (L.getD j default).1.pts.length : Nat) : Int) := by omega
   generalize kk + 1 + 2 * (L.getD j default).1.pts.length = k2 at *
   have d6 : decide ((k2 : Int) < 0) = false := decide_eq_false (by omega)
   go_wp2_with fail
   refine ch.mono ?_
   rintro e w' ⟨rfl,rfl⟩
   go_wp2_with fail
   go_roundw
   case rel => exact ⟨j + 1,by omega,by go_num,by rw [← HKc.out],B1.out⟩
   case measure => simp [intOf]; omega
  ·obtain rfl : j = n := by omega
   go_wp2_with fail
   go_ret
   exact ⟨rfl,HB.out⟩
theorem kAt_ge (k : Nat) (L : List (Ser × Value)) : ∀ j,k ≤ kAt k L j
 | 0 => Nat.le_refl _
 | j + 1 => by have := kAt_ge k L j; rw [kAt]; omega
theorem kAt_mono (k : Nat) (L : List (Ser × Value)) {i j : Nat} (h : i ≤ j) : kAt k L i ≤ kAt k L j := by
 induction j with
 | zero => rw [Nat.le_zero.1 h]; exact Nat.le_refl _
 | succ j ih =>
  rcases Nat.eq_or_lt_of_le h with e | e
  ·rw [e]; exact Nat.le_refl _
  ·have := ih (by omega)
   rw [kAt]
   omega
theorem kAt_weight (k : Nat) (L : List (Ser × Value)) : ∀ j,j ≤ L.length → kAt k L j + 0 ≤ k + 2 * (j + wtS ((L.map Prod.fst).take j))
 | 0,_ => by simp [kAt]
 | j + 1,hj => by
  have ih := kAt_weight k L j (by omega)
  have hm : (L.map Prod.fst).getD j default = (L.getD j default).1 := by rw [← getD_at _ j (by rw [List.length_map]; omega),← getD_at L j (by omega),List.getElem_map]
  rw [kAt,wtS_snoc _ j (by rw [List.length_map]; omega),hm]
  unfold wtS1
  omega
set_option maxHeartbeats 4000000 in
theorem markSeriesG (k base : Nat) (v : Value) (L : List (Ser × Value)) (w : World) (hv : SerO w base v L) (hl : L.length ≤ 1048576) (hp : kAt k L L.length ≤ 4000000) (h1 : 1 ≤ k) (hbs : base ≤ w.heap.size) :
  Calls Tryz.prog 94 #[v,.int .i64 (k : Int)] w fun e w' => e = .returned (.int .i64 (kAt k L L.length : Int)) ∧ SMk w' base k v L ∧ Below base w w' ∧ (∀ b,b < w.heap.size → v.ownBlock ≠ some b → (∀ j,j < L.length → (L.getD j default).2.ownBlock ≠ some b) → w'.heap[b]? = w.heap[b]?) := by
 obtain ⟨A,ca,e0,_⟩ := sr_look hv.lies.1
 have HV := hQz hv
 subst e0
 have HK : Hid (∀ j,j ≤ L.length → k ≤ kAt k L j ∧ kAt k L j ≤ 4000000) := fun j hj => ⟨kAt_ge k L j,Nat.le_trans (kAt_mono k L hj) hp⟩
 have q1 : (L.length : Int) ≤ 1048576 := by omega
 have HAp : Hid (∀ i j,i < L.length → j < L.length → i ≠ j → Apart (L.getD i default).2 (L.getD j default).2) := fun i j hi hj hne => apart_get hv.2.2 i j hi hj hne
 have HRl : Hid ((srR L).length = L.length) := srR_length L
 have HRg : Hid (∀ j (hj : j < (srR L).length),(srR L)[j] = [.string (L.getD j default).1.key,(L.getD j default).2]) := fun j hj => srR_get L j hj
 have P0 : Hid (∀ j,j < L.length → Owns w base 98 2 (L.getD j default).2 (ptR (L.getD j default).1.pts)) := fun j hj => hv.2.1 _ (getD_mem L j hj)
 have HBS : Hid (base ≤ w.heap.size) := hbs
 have HK1 : Hid (1 ≤ k) := h1
 clear hv hp hl hbs h1
 generalize hn : L.length = n at *
 have HN : Hid (L.length = n) := hn
 clear hn
 go_enter Tryz.func94,Tryz.ntmps94
 go_wp2_with fail
 go_loopw [1,5] (fun v1 v5 wr => ∃ j : Nat,j ≤ n ∧ v5 = .int .i64 (j : Int) ∧ v1 = .int .i64 (kAt k L j : Int) ∧ Owns wr base 101 2 (.slice A n ca) (partR (smR k L) (srR L) j) ∧ (∀ i,i < j → Owns wr base 98 2 (L.getD i default).2 (newR (mkPt (kAt k L i + 1)) (L.getD i default).1.pts.length)) ∧ (∀ i,j ≤ i → i < n → Owns wr base 98 2 (L.getD i default).2 (ptR (L.getD i default).1.pts)) ∧ Below base w wr ∧ (∀ b,b < w.heap.size → (Value.slice A n ca).ownBlock ≠ some b → (∀ j,j < n → (L.getD j default).2.ownBlock ≠ some b) → wr.heap[b]? = w.heap[b]?)) (fun _ i _ => n - (intOf i).toNat)
 case atStart => exact ⟨0,by omega,rfl,rfl,by rw [partR_zero]; exact HV.out.1,fun i hi => by omega,fun i _ hi => P0.out i hi,Below.refl _ _,fun _ _ _ _ => rfl⟩
 case round =>
  obtain ⟨j,hj,rfl,rfl,hS,hM,hR,hB,hE⟩ := hrel
  have HE : Hid (∀ b,b < w.heap.size → (Value.slice A n ca).ownBlock ≠ some b → (∀ j,j < n → (L.getD j default).2.ownBlock ≠ some b) → wr.heap[b]? = w.heap[b]?) := hE
  have HS := hQz hS
  have HM : Hid (∀ i,i < j → Owns wr base 98 2 (L.getD i default).2 (newR (mkPt (kAt k L i + 1)) (L.getD i default).1.pts.length)) := hM
  have HR : Hid (∀ i,j ≤ i → i < n → Owns wr base 98 2 (L.getD i default).2 (ptR (L.getD i default).1.pts)) := hR
  have HB := hQz hB
  clear hS hM hR hB hE
  by_cases hlt : j < n
  ·have q2 : (j : Int) < (n : Int) := by omega
   obtain ⟨g,rfl,hgb⟩ : ∃ g,A = some ⟨g,0,none⟩ ∧ base ≤ g := by
    rcases HS.out.2.2 with ⟨e,h0⟩ | ⟨g,c,cur,e,hg,_⟩
    ·rw [partR_length _ _ _ (by rw [HRl.out]; omega),HRl.out] at h0; omega
    ·cases e; exact ⟨g,rfl,hg⟩
   have HG : Hid (base ≤ g) := hgb
   clear hgb
   have hkj := HK.out j (by omega)
   have HKs : Hid (kAt k L (j + 1) = kAt k L j + 1 + 2 * (L.getD j default).1.pts.length) := by unfold Hid; rw [kAt]
   have cm := markText (kAt k L j) wr (by have := HK1.out; omega) (by omega)
   have hpj := HK.out (j + 1) (by omega)
   rw [kAt] at hpj
   have HSm : Hid (smR k L j = [.string (mark (kAt k L j)),(L.getD j default).2]) := rfl
   have HPj : Hid (kAt k L j ≤ 4000000 ∧ (L.getD j default).1.pts.length ≤ 2000000) := ⟨by omega,by omega⟩
   obtain ⟨Aj,nj,cj,euj⟩ := (HR.out j (Nat.le_refl _) hlt).shape
   have HEu : Hid ((L.getD j default).2 = .slice Aj nj cj) := euj
   clear euj hpj hkj
   generalize hkk : kAt k L j = kk at *
   have HKK : Hid (kAt k L j = kk) := hkk
   clear hkk
   go_wp2_with fail
   refine cm.mono ?_
   rintro e Y1 ⟨rfl,hb1⟩
   have hS1 := HS.out.on hb1
   have hpl : (partR (smR k L) (srR L) j).length = n := by rw [partR_length _ _ _ (by rw [HRl.out]; omega),HRl.out]
   have hjr : j < (partR (smR k L) (srR L) j).length := by rw [hpl]; exact hlt
   have hrow : (partR (smR k L) (srR L) j)[j]'hjr = [.string (L.getD j default).1.key,(L.getD j default).2] := by
    rw [partR_at _ _ _ (by rw [HRl.out]; exact hlt)]
    exact HRg.out j _
   have hS2 := hS1
   rw [← set_self j hjr,hrow] at hS2
   have hS3 := hS2.pokeAt (R := partR (smR k L) (srR L) j) hpl hlt 0 (by omega) (.string (mark kk))
   rw [Nat.add_zero,show List.set [.string (L.getD j default).1.key,(L.getD j default).2] 0 (.string (mark kk)) = smR k L j by rw [HSm.out]; rfl,partR_set _ _ _ (by rw [HRl.out]; exact hlt)] at hS3
   have hO1 := hS1
   rw [show (Value.slice (some ⟨g,0,none⟩) n ca) = .slice (some ⟨g,0,none⟩) (partR (smR k L) (srR L) j).length ca by rw [hpl]] at hO1
   obtain ⟨y0,d0⟩ := hO1.cellX j 0 hjr (by omega)
   have f0 := hO1.free (j * 2)
   rw [Nat.add_zero] at d0
   have HS3 := hQz hS3
   have hgp : ∀ i,(i < j ∨ j ≤ i ∧ i < n) → (L.getD i default).2.ownBlock ≠ some g := fun i hi e => by
    rcases hi with hi | hi
    ·exact ((HM.out i hi).on hb1).apartT hS1 (by decide) g e rfl
    ·exact ((HR.out i hi.1 hi.2).on hb1).apartT hS1 (by decide) g e rfl
   have M3 : Hid (∀ i,i < j → Owns (Y1.setCell ⟨g,j * 2,none⟩ (.string (mark kk))) base 98 2 (L.getD i default).2 (newR (mkPt (kAt k L i + 1)) (L.getD i default).1.pts.length)) := fun i hi => ((HM.out i hi).on hb1).other (hgp i (.inl hi)) _ _
   have R3 : Hid (∀ i,j ≤ i → i < n → Owns (Y1.setCell ⟨g,j * 2,none⟩ (.string (mark kk))) base 98 2 (L.getD i default).2 (ptR (L.getD i default).1.pts)) := fun i h1 h2 => ((HR.out i h1 h2).on hb1).other (hgp i (.inr ⟨h1,h2⟩)) _ _
   have B3 : Hid (Below base w (Y1.setCell ⟨g,j * 2,none⟩ (.string (mark kk)))) := (HB.out.trans (hb1.mono (Nat.le_trans HBS.out HB.out.size))).setCell (show base ≤ g from HG.out) _
   have E3 : Hid (∀ b,b < w.heap.size → (Value.slice (some ⟨g,0,none⟩) n ca).ownBlock ≠ some b → (∀ j,j < n → (L.getD j default).2.ownBlock ≠ some b) → (Y1.setCell ⟨g,j * 2,none⟩ (.string (mark kk))).heap[b]? = w.heap[b]?) := fun b h1 h2 h3 => by
    rw [Below.heap_setCell _ _ _ _ (show b ≠ g from fun e => h2 (by rw [e]; rfl)),hb1.block b (Nat.lt_of_lt_of_le h1 HB.out.size)]
    exact HE.out b h1 h2 h3
   have hl3 := HS3.out.lies.look
   obtain ⟨A3,c3,e3,hl3⟩ := hl3
   rw [partR_length _ _ _ (by rw [HRl.out]; omega),HRl.out] at e3
   cases e3
   obtain ⟨g3,o3,e3,_,hc3⟩ := hl3 j (by rw [partR_length _ _ _ (by rw [HRl.out]; omega),HRl.out]; exact hlt)
   cases e3
   have hrow3 : (partR (smR k L) (srR L) (j + 1))[j]'(by rw [partR_length _ _ _ (by rw [HRl.out]; omega),HRl.out]; exact hlt) = [.string (mark kk),.slice Aj nj cj] := by
    rw [partR_was,HSm.out,HEu.out]
   have m1 := hc3 1 (.slice Aj nj cj) (by omega) (by rw [hrow3]; rfl)
   rw [Nat.zero_add] at m1
   generalize hW3 : Y1.setCell ⟨g,j * 2,none⟩ (.string (mark kk)) = W3 at *
   have cp := markPointS (kk + 1) base (.slice Aj nj cj) (ptR (L.getD j default).1.pts) W3 (by have := R3.out j (Nat.le_refl _) hlt; rw [HEu.out] at this; exact this) (by rw [ptR_length]; have := HPj.out; omega) (by have := HPj.out; omega)
   rw [ptR_length] at cp
   generalize hplj : (L.getD j default).1.pts.length = pl at cp HKs HPj
   have HPL : Hid ((L.getD j default).1.pts.length = pl) := hplj
   clear hplj
   have q5 : (kk : Int) ≤ 4000000 := by have := HPj.out; omega
   have hcast : (((kk + 1 : Nat)) : Int) = (kk : Int) + 1 := by omega
   rw [hcast] at cp
   clear hS1 hS2 hS3 hO1 hpl hjr hrow hgp hl3 hrow3 hc3 hb1 cm
   go_wp2_with fail
   refine cp.mono ?_
   rintro e Y4 ⟨rfl,hO4,hb4,hk4⟩
   have S4 : Hid (Owns Y4 base 101 2 (.slice (some ⟨g,0,none⟩) n ca) (partR (smR k L) (srR L) (j + 1))) := HS3.out.kept fun gg _ hv => hk4 gg (fun hu => (by have := R3.out j (Nat.le_refl _) hlt; rw [HEu.out] at this; exact this : Owns W3 base 98 2 (.slice Aj nj cj) (ptR (L.getD j default).1.pts)).apartT HS3.out (by decide) gg hu hv)
   have M4 : Hid (∀ i,i < j + 1 → Owns Y4 base 98 2 (L.getD i default).2 (newR (mkPt (kAt k L i + 1)) (L.getD i default).1.pts.length)) := fun i hi => by
    by_cases e : i = j
    ·rw [e,HKK.out,HEu.out,HPL.out]; exact hO4
    ·refine (M3.out i (by omega)).kept fun gg _ hv => hk4 gg (fun hu => ?_)
     have := HAp.out i j (by omega) hlt e
     rw [HEu.out] at this
     exact this gg hv hu
   have R4 : Hid (∀ i,j + 1 ≤ i → i < n → Owns Y4 base 98 2 (L.getD i default).2 (ptR (L.getD i default).1.pts)) := fun i h1 h2 => by
    refine (R3.out i (by omega) h2).kept fun gg _ hv => hk4 gg (fun hu => ?_)
    have := HAp.out i j h2 hlt (by omega)
    rw [HEu.out] at this
    exact this gg hv hu
   have B4 := hQz (B3.out.trans hb4)
   have E4 : Hid (∀ b,b < w.heap.size → (Value.slice (some ⟨g,0,none⟩) n ca).ownBlock ≠ some b → (∀ j,j < n → (L.getD j default).2.ownBlock ≠ some b) → Y4.heap[b]? = w.heap[b]?) := fun b h1 h2 h3 => by
    rw [hk4 b (by have := h3 j hlt; rw [HEu.out] at this; exact this)]
    exact E3.out b h1 h2 h3
   have HKc : Hid ((((kk + 1 + 2 * pl : Nat)) : Int) = (kAt k L (j + 1) : Int)) := by unfold Hid; rw [HKs.out]
   generalize kk + 1 + 2 * pl = k2 at *
   clear hO4 hb4 hk4 cp
   go_wp2_with fail
   go_roundw
   case rel => exact ⟨j + 1,by omega,by go_num,by rw [← HKc.out],S4.out,M4.out,R4.out,B4.out,E4.out⟩
   case measure => simp [intOf]; omega
  ·obtain rfl : j = n := by omega
   go_wp2_with fail
   go_ret
   refine ⟨rfl,⟨?_,fun i hi => HM.out i (by rw [← HN.out]; exact hi)⟩,HB.out,HE.out⟩
   have := HS.out
   rw [show j = (srR L).length by rw [HRl.out],partR_all,HRl.out] at this
   rw [HN.out]
   exact this
set_option maxHeartbeats 1000000 in
theorem eq_same (a b : Nat) (va vb : Value) (l : List ByteArray) (w : World) (ha : Strs w a va l) (hb : Strs w b vb l) (hl : l.length ≤ 2097152) :
  Calls Tryz.prog 74 #[va,vb] w fun e w' => e = .returned (.bool true) ∧ Like w w' := by
 by_cases h0 : l.length = 0
 ·obtain ⟨A,ca,rfl⟩ : ∃ A ca,va = .slice A 0 ca := by
   rcases ha.form with ⟨rfl,_⟩ | ⟨g,c,rfl,_⟩
   ·exact ⟨_,_,rfl⟩
   ·rw [h0]; exact ⟨_,_,rfl⟩
  obtain ⟨B,cb,rfl⟩ : ∃ B cb,vb = .slice B 0 cb := by
   rcases hb.form with ⟨rfl,_⟩ | ⟨g,c,rfl,_⟩
   ·exact ⟨_,_,rfl⟩
   ·rw [h0]; exact ⟨_,_,rfl⟩
  clear ha hb h0 hl
  go_enter Tryz.func74,Tryz.ntmps74
  go_wp2
  go_loop [5] (fun v5 => v5 = .int .i64 0) (fun _ => 0)
  case atStart => rfl
  case round =>
   subst hrel
   go_wp2
   go_ret
   exact ⟨rfl,Like.refl _⟩
 ·obtain ⟨g,ca,rfl,_,_⟩ : ∃ g cap,va = .slice (some ⟨g,0,none⟩) l.length cap ∧ a ≤ g ∧ g < w.heap.size := by
   rcases ha.form with ⟨rfl,rfl⟩ | h
   ·exact absurd rfl h0
   ·exact h
  obtain ⟨g',cb,rfl,_,_⟩ : ∃ g cap,vb = .slice (some ⟨g,0,none⟩) l.length cap ∧ b ≤ g ∧ g < w.heap.size := by
   rcases hb.form with ⟨rfl,rfl⟩ | h
   ·exact absurd rfl h0
   ·exact h
  have HA := hQz ha
  have HB := hQz hb
  have q1 : (l.length : Int) ≤ 2097152 := by omega
  clear ha hb hl
  generalize hn : l.length = n at *
  have HN : Hid (l.length = n) := hn
  clear hn
  go_enter Tryz.func74,Tryz.ntmps74
  go_wp2
  go_loopw [5] (fun v5 wr => ∃ k : Nat,k ≤ n ∧ v5 = .int .i64 k ∧ Like w wr) (fun i _ => n - (intOf i).toNat)
  case atStart => exact ⟨0,by omega,rfl,Like.refl _⟩
  case round =>
   obtain ⟨k,hk,rfl,hL⟩ := hrel
   by_cases hlt : k < n
   ·have q2 : (k : Int) < (n : Int) := by omega
    have hkl : k < l.length := by rw [HN.out]; exact hlt
    have c1 := HA.out
    have c2 := HB.out
    rw [← HN.out] at c1 c2
    have e1 := c1.cell k hkl
    have e2 := c2.cell k hkl
    rw [← cell?_heap hL.1] at e1 e2
    generalize l[k] = x at *
    clear c1 c2 hkl
    go_wp2
    go_quiet (fail)
    go_wp2
    go_roundw
    case rel => exact ⟨k + 1,by omega,by go_num,hL.drewN _⟩
    case measure => simp [intOf]; omega
   ·have hkk : k = n := by omega
    subst hkk
    go_wp2
    go_ret
    exact ⟨rfl,hL⟩
set_option maxHeartbeats 1000000 in
theorem held_all (k base n : Nat) (v : Value) (w : World) (hv : Strs w base v (marks k n)) (hl : n ≤ 2097152) (h1 : 1 ≤ k) (h2 : k ≤ 100000000) :
  Calls Tryz.prog 98 #[v,.int .i64 (k : Int)] w fun e w' => e = .returned (.int .i64 ((k + n : Nat) : Int)) ∧ Below w.heap.size w w' := by
 have hml := marks_length k n
 by_cases h0 : n = 0
 ·subst h0
  obtain ⟨A,ca,rfl⟩ : ∃ A ca,v = .slice A 0 ca := by
   rcases hv.form with ⟨rfl,_⟩ | ⟨g,c,rfl,_⟩
   ·exact ⟨_,_,rfl⟩
   ·exact ⟨_,_,rfl⟩
  clear hv hl hml
  go_enter Tryz.func98,Tryz.ntmps98
  go_wp2
  go_loop [1,5] (fun v1 v5 => v1 = .int .i64 (k : Int) ∧ v5 = .int .i64 0) (fun _ _ => 0)
  case atStart => exact ⟨rfl,rfl⟩
  case round =>
   obtain ⟨rfl,rfl⟩ := hrel
   go_wp2
   go_ret
   exact ⟨rfl,Below.refl _ _⟩
 ·obtain ⟨g,ca,rfl,hg,_⟩ : ∃ g cap,v = .slice (some ⟨g,0,none⟩) (marks k n).length cap ∧ base ≤ g ∧ g < w.heap.size := by
   rcases hv.form with ⟨rfl,e⟩ | h
   ·rw [e] at hml
    exact absurd hml.symm h0
   ·exact h
  have HV := hQz hv
  have q1 : (n : Int) ≤ 2097152 := by omega
  have q3 : (k : Int) ≤ 100000000 := by omega
  clear hv hl hg
  rw [hml]
  go_enter Tryz.func98,Tryz.ntmps98
  go_wp2
  go_loopw [1,5] (fun v1 v5 wr => ∃ j : Nat,j ≤ n ∧ v5 = .int .i64 j ∧ v1 = .int .i64 ((k + j : Nat) : Int) ∧ Below w.heap.size w wr) (fun _ i _ => n - (intOf i).toNat)
  case atStart => exact ⟨0,by omega,rfl,rfl,Below.refl _ _⟩
  case round =>
   obtain ⟨j,hj,rfl,rfl,hB⟩ := hrel
   have HB := hQz hB
   clear hB
   by_cases hlt : j < n
   ·have q2 : (j : Int) < (n : Int) := by omega
    have hS := HV.out.on HB.out
    have e1 := hS.cell j (by rw [hml]; exact hlt)
    rw [marks_get] at e1
    have c1 := fun wx => markText (k + j) wx (by omega) (by omega)
    have hsz := HB.out.size
    have hgl : Hid (g < wr.heap.size) := World.block_lt_of_cell? _ _ e1
    clear hS
    go_wp2_with fail
    go_region_with (go_at_call 96; refine (c1 _).mono ?_; rintro e w1 ⟨rfl,hb1⟩; have e3 := (hb1.cell (p := ⟨g,j,none⟩) hgl.out).trans e1)
    all_goals go_wp2_with fail
    all_goals exact ⟨⟨j + 1,by omega,by go_num,by go_num,HB.out.trans (((Below.refl _ wr).drew.trans hb1).mono hsz)⟩,by simp [intOf]; omega⟩
   ·have hkk : j = n := by omega
    subst hkk
    go_wp2
    go_ret
    exact ⟨rfl,HB.out⟩
def wtT (l : List ByteArray) : Nat := (l.map fun s => s.size).sum
def wtE (e : Eng) : Nat := e.cache.length + wtS e.cache + (e.files.length + wtT e.files)
set_option maxHeartbeats 1000000 in
theorem mark_allG (k base : Nat) (v : Value) (l : List ByteArray) (w : World) (hv : Strs w base v l) (hl : l.length ≤ 2097152) (h1 : 1 ≤ k) (h2 : k ≤ 100000000) (hbase : base ≤ w.heap.size) :
  Calls Tryz.prog 95 #[v,.int .i64 (k : Int)] w fun e w' => e = .returned (.int .i64 ((k + l.length : Nat) : Int)) ∧ Strs w' base v (marks k l.length) ∧ Below base w w' ∧ (∀ b,b < w.heap.size → v.ownBlock ≠ some b → w'.heap[b]? = w.heap[b]?) := by
 by_cases h0 : l.length = 0
 ·obtain ⟨A,ca,rfl⟩ : ∃ A ca,v = .slice A 0 ca := by
   rcases hv.form with ⟨rfl,_⟩ | ⟨g,c,rfl,_⟩
   ·exact ⟨_,_,rfl⟩
   ·rw [h0]; exact ⟨_,_,rfl⟩
  have HV := hQz hv
  have HZ : Hid (l.length = 0) := h0
  clear hv h0 hl
  go_enter Tryz.func95,Tryz.ntmps95
  go_wp2
  go_loop [1,5] (fun v1 v5 => v1 = .int .i64 (k : Int) ∧ v5 = .int .i64 0) (fun _ _ => 0)
  case atStart => exact ⟨rfl,rfl⟩
  case round =>
   obtain ⟨rfl,rfl⟩ := hrel
   go_wp2
   go_ret
   have e := List.eq_nil_of_length_eq_zero HZ.out
   have hv := HV.out
   subst e
   exact ⟨rfl,hv,Below.refl _ _,fun _ _ _ => rfl⟩
 ·obtain ⟨g,ca,rfl,hg,_⟩ : ∃ g cap,v = .slice (some ⟨g,0,none⟩) l.length cap ∧ base ≤ g ∧ g < w.heap.size := by
   rcases hv.form with ⟨rfl,rfl⟩ | h
   ·exact absurd rfl h0
   ·exact h
  have HV := hQz hv
  have q1 : (l.length : Int) ≤ 2097152 := by omega
  have q3 : (k : Int) ≤ 100000000 := by omega
  clear hv hl
  generalize hn : l.length = n at *
  have HN : Hid (l.length = n) := hn
  have HG : Hid (base ≤ g) := hg
  clear hn hg
  go_enter Tryz.func95,Tryz.ntmps95
  go_wp2
  go_loopw [1,5] (fun v1 v5 wr => ∃ j : Nat,j ≤ n ∧ v5 = .int .i64 j ∧ v1 = .int .i64 ((k + j : Nat) : Int) ∧ Strs wr base (.slice (some ⟨g,0,none⟩) n ca) (marked k l j) ∧ Below base w wr ∧ (∀ b,b < w.heap.size → (Value.slice (some ⟨g,0,none⟩) n ca).ownBlock ≠ some b → wr.heap[b]? = w.heap[b]?)) (fun _ i _ => n - (intOf i).toNat)
  case atStart => exact ⟨0,by omega,rfl,rfl,by rw [marked_zero]; exact HV.out,Below.refl _ _,fun _ _ _ => rfl⟩
  case round =>
   obtain ⟨j,hj,rfl,rfl,hS,hB,hE⟩ := hrel
   have HE : Hid (∀ b,b < w.heap.size → (Value.slice (some ⟨g,0,none⟩) n ca).ownBlock ≠ some b → wr.heap[b]? = w.heap[b]?) := hE
   have HS := hQz hS
   have HB := hQz hB
   clear hS hB hE
   by_cases hlt : j < n
   ·have q2 : (j : Int) < (n : Int) := by omega
    have hml : (marked k l j).length = n := by rw [marked_length _ _ _ (by rw [HN.out]; exact hj),HN.out]
    have c1 := markText (k + j) wr (by omega) (by omega)
    go_wp2_with fail
    refine c1.mono ?_
    rintro e w1 ⟨rfl,hb1⟩
    have hS1 := HS.out.on hb1
    rw [← hml] at hS1
    have e1 := hS1.cell j (by rw [hml]; exact hlt)
    have e2 := hS1.frozen j
    have hS2 := hS1.stored j (mark (k + j))
    rw [hml,marked_set _ _ _ (by rw [HN.out]; exact hlt)] at hS2
    have HS2 := hQz hS2
    have hsz := HB.out.size
    have HB1 : Hid (Below base w w1) := HB.out.trans (hb1.mono (by omega))
    have E2 : Hid (∀ b,b < w.heap.size → (Value.slice (some ⟨g,0,none⟩) n ca).ownBlock ≠ some b → (w1.setCell ⟨g,j,none⟩ (.string (mark (k + j)))).heap[b]? = w.heap[b]?) := fun b h1 h2 => by
     rw [Below.heap_setCell _ _ _ _ (show b ≠ g from fun e => h2 (by rw [e]; rfl)),hb1.block b (Nat.lt_of_lt_of_le h1 HB.out.size)]
     exact HE.out b h1 h2
    generalize (marked k l j)[j] = x at *
    clear hS1 hS2 hml
    go_wp2_with fail
    go_roundw
    case rel => exact ⟨j + 1,by omega,by go_num,by go_num,HS2.out,HB1.out.setCell HG.out _,E2.out⟩
    case measure => simp [intOf]; omega
   ·have hkk : j = n := by omega
    subst hkk
    go_wp2
    go_ret
    refine ⟨rfl,?_,HB.out,HE.out⟩
    have := HS.out
    rw [← HN.out,marked_all] at this
    rw [HN.out] at this
    exact this
set_option maxHeartbeats 2000000 in
theorem eqEngine (e : Eng) (va vb : Value) (b1 b2 : Nat) (w : World) (ha : EngO w b1 va e) (hb : EngO w b2 vb e) (hs : EShort e) :
  Calls Tryz.prog 33 #[va,vb] w fun b w' => b = .returned (.bool true) ∧ Below w.heap.size w w' := by
 obtain ⟨vc,vf,L,rfl,hL,hS,hT⟩ := ha
 obtain ⟨vc',vf',L',rfl,hL',hS',hT'⟩ := hb
 unfold vE
 have S1 : Hid (SerV w w.heap.size vc e.cache) := by unfold Hid; rw [← hL]; exact hS.view
 have S2 : Hid (SerV w w.heap.size vc' e.cache) := by unfold Hid; rw [← hL']; exact hS'.view
 have T1 := hQz hT
 have T2 := hQz hT'
 have HSh : Hid (EShort e) := hs
 obtain ⟨A1,n1,c1,rfl⟩ := hS.1.shape
 obtain ⟨A2,n2,c2,rfl⟩ := hS'.1.shape
 obtain ⟨A3,n3,c3,rfl⟩ := (strs_owns hT).shape
 obtain ⟨A4,n4,c4,rfl⟩ := (strs_owns hT').shape
 clear hL hL' hS hS' hT hT' hs
 generalize e.floor = f at *
 obtain ⟨X0,hX0⟩ : ∃ X0,X0 = (w.alloc (.cells #[.int .i64 f,.slice A1 n1 c1,.slice A3 n3 c3] 35)).alloc (.cells #[.int .i64 f,.slice A2 n2 c2,.slice A4 n4 c4] 35) := ⟨_,rfl⟩
 have BX : Hid (Below w.heap.size w X0) := by unfold Hid; rw [hX0]; exact below_alloc2 _ _ _
 have K1 : Hid (Blk X0 w.heap.size #[.int .i64 f,.slice A1 n1 c1,.slice A3 n3 c3] 35) := by unfold Hid; rw [hX0]; exact (Blk.new w _ _).alloc _
 have K2 : Hid (Blk X0 (w.heap.size + 1) #[.int .i64 f,.slice A2 n2 c2,.slice A4 n4 c4] 35) := by
  unfold Hid
  rw [hX0]
  have := Blk.new (w.alloc (.cells #[.int .i64 f,.slice A1 n1 c1,.slice A3 n3 c3] 35)) #[.int .i64 f,.slice A2 n2 c2,.slice A4 n4 c4] 35
  rw [World.size_alloc] at this
  exact this
 have cS := eqSeriesS e.cache (.slice A1 n1 c1) (.slice A2 n2 c2) X0 w.heap.size (S1.out.on BX.out) (S2.out.on BX.out) HSh.out.1 BX.out.size
 have a0 := K1.out.cell 0 _ rfl
 have a1 := K1.out.cell 1 _ rfl
 have d0 := K2.out.cell 0 _ rfl
 have d1 := K2.out.cell 1 _ rfl
 go_enter Tryz.func33,Tryz.ntmps33
 go_wp2_with fail
 rw [← hX0]
 clear hX0
 refine cS.mono ?_
 rintro b X1 ⟨rfl,hb1⟩
 have B1 := hQz (BX.out.trans (hb1.mono BX.out.size))
 have K3 := K1.out.on hb1 K1.out.lt
 have K4 := K2.out.on hb1 K2.out.lt
 have a2 := K3.cell 2 _ rfl
 have d2 := K4.cell 2 _ rfl
 have cT := eq_same b1 b2 (.slice A3 n3 c3) (.slice A4 n4 c4) e.files X1 (T1.out.on B1.out) (T2.out.on B1.out) (by have := HSh.out.2.2.1; omega)
 clear hb1 cS a0 a1 d0 d1 K3 K4
 go_wp2_with fail
 refine cT.mono ?_
 rintro b X2 ⟨rfl,hlk⟩
 have B2 : Hid (Below w.heap.size w X2) := B1.out.trans (hlk.below.mono B1.out.size)
 clear hlk cT a2 d2
 go_wp2_with fail
 go_ret
 exact ⟨rfl,B2.out⟩
def EMk (w : World) (base k : Nat) (v : Value) (L : List (Ser × Value)) (n : Nat) : Prop := ∃ f vc vf,v = vE f vc vf ∧ SMk w base k vc L ∧ Strs w base vf (marks (kAt k L L.length) n)
theorem EMk.on {w w' : World} {base k : Nat} {v : Value} {L : List (Ser × Value)} {n : Nat} (h : EMk w base k v L n) (hb : Below w.heap.size w w') : EMk w' base k v L n := by
 obtain ⟨f,vc,vf,h1,h2,h3⟩ := h
 exact ⟨f,vc,vf,h1,h2.on hb,h3.on hb⟩
def NotE (vc vf : Value) (L : List (Ser × Value)) (b : Nat) : Prop := vc.ownBlock ≠ some b ∧ (∀ j,j < L.length → (L.getD j default).2.ownBlock ≠ some b) ∧ vf.ownBlock ≠ some b
set_option maxHeartbeats 2000000 in
theorem markEngine (e : Eng) (v vc vf : Value) (L : List (Ser × Value)) (base k : Nat) (w : World) (ev : v = vE e.floor vc vf) (hL : L.map Prod.fst = e.cache) (hS : SerO w base vc L) (hT : Strs w base vf e.files) (hk : 1 ≤ k) (hk2 : k ≤ 1000) (hw : wtE e ≤ 1048576) (hbs : base ≤ w.heap.size) :
  Calls Tryz.prog 50 #[v,.int .i64 (k : Int)] w fun b w' => b = .returned (.int .i64 ((kAt k L L.length + e.files.length : Nat) : Int)) ∧ EMk w' base k v L e.files.length ∧ Below base w w' ∧ (∀ b,b < w.heap.size → NotE vc vf L b → w'.heap[b]? = w.heap[b]?) := by
 have HEv : Hid (v = vE e.floor vc vf) := ev
 have hlen : L.length = e.cache.length := by rw [← hL,List.length_map]
 have hkA := kAt_weight k L L.length (Nat.le_refl _)
 rw [hL,List.take_of_length_le (by omega)] at hkA
 have hwE : wtE e = e.cache.length + wtS e.cache + (e.files.length + wtT e.files) := rfl
 have hkA2 : kAt k L L.length ≤ 4000000 := by omega
 have hkge := kAt_ge k L L.length
 have HT := hQz hT
 have HS := hQz hS
 have HBs : Hid (base ≤ w.heap.size) := hbs
 have hvcl : ∀ g,vc.ownBlock = some g → g < w.heap.size := fun g hg => (hS.1.lt g hg).2
 have hvll : ∀ j,j < L.length → ∀ g,(L.getD j default).2.ownBlock = some g → g < w.heap.size := fun j hj g hg => ((hS.2.1 _ (getD_mem L j hj)).lt g hg).2
 obtain ⟨A1,n1,c1,rfl⟩ := hS.1.shape
 obtain ⟨A3,n3,c3,rfl⟩ := (strs_owns hT).shape
 have HAp : Hid (∀ b,(Value.slice A3 n3 c3).ownBlock = some b → (Value.slice A1 n1 c1).ownBlock ≠ some b ∧ ∀ j,j < L.length → (L.getD j default).2.ownBlock ≠ some b) := fun b hb => ⟨fun h => hS.1.apartT (strs_owns hT) (by decide) b h hb,fun j hj h => (hS.2.1 _ (getD_mem L j hj)).apartT (strs_owns hT) (by decide) b h hb⟩
 have HFl : Hid (e.files.length ≤ 1048576) := by unfold Hid; omega
 obtain ⟨X0,hX0⟩ : ∃ X0,X0 = w.alloc (.cells #[.int .i64 e.floor,.slice A1 n1 c1,.slice A3 n3 c3] 35) := ⟨_,rfl⟩
 have BX : Hid (Below w.heap.size w X0) := by unfold Hid; rw [hX0]; exact (Below.refl _ w).alloc (Nat.le_refl _) _
 have K1 : Hid (Blk X0 w.heap.size #[.int .i64 e.floor,.slice A1 n1 c1,.slice A3 n3 c3] 35) := by unfold Hid; rw [hX0]; exact Blk.new w _ _
 have cS := markSeriesG k base (.slice A1 n1 c1) L X0 (hS.on BX.out) (by omega) hkA2 hk (Nat.le_trans hbs BX.out.size)
 have HNw : Hid ((Value.slice A1 n1 c1).ownBlock ≠ some w.heap.size ∧ ∀ j,j < L.length → (L.getD j default).2.ownBlock ≠ some w.heap.size) := ⟨fun h => by have := hvcl _ h; omega,fun j hj h => by have := hvll j hj _ h; omega⟩
 have a1 := K1.out.cell 1 _ rfl
 have HVe : Hid (v = .agg #[.int .i64 e.floor,.slice A1 n1 c1,.slice A3 n3 c3]) := ev
 subst ev
 unfold vE
 generalize e.floor = f at *
 clear hL hS hT hbs hvcl hvll hwE hkA hw
 generalize hKL : kAt k L L.length = KL at *
 have q1 : (KL : Int) ≤ 4000000 := by omega
 go_enter Tryz.func50,Tryz.ntmps50
 go_wp2_with fail
 rw [← hX0]
 clear hX0
 refine cS.mono ?_
 rintro b X1 ⟨rfl,hM,hb1,hk1⟩
 have M1 : Hid (SMk X1 base k (.slice A1 n1 c1) L) := hM
 have B1 := hQz ((BX.out.mono HBs.out).trans hb1)
 have E1 : Hid (∀ b,b < X0.heap.size → (Value.slice A1 n1 c1).ownBlock ≠ some b → (∀ j,j < L.length → (L.getD j default).2.ownBlock ≠ some b) → X1.heap[b]? = X0.heap[b]?) := hk1
 have K2 : Blk X1 w.heap.size #[.int .i64 f,.slice A1 n1 c1,.slice A3 n3 c3] 35 := (hk1 _ K1.out.lt HNw.out.1 HNw.out.2).trans K1.out
 have a2 := K2.cell 2 _ rfl
 have T1 : Hid (Strs X1 base (.slice A3 n3 c3) e.files) := (HT.out.on BX.out).kept fun g hg hv => hk1 g hg (HAp.out g hv).1 (HAp.out g hv).2
 have cT := mark_allG KL base (.slice A3 n3 c3) e.files X1 T1.out (by have := HFl.out; omega) (by omega) (by omega) (Nat.le_trans HBs.out B1.out.size)
 have HMs : Hid (∀ wx,(∀ b,b < X1.heap.size → (Value.slice A3 n3 c3).ownBlock ≠ some b → wx.heap[b]? = X1.heap[b]?) → SMk wx base k (.slice A1 n1 c1) L) := fun wx hx => ⟨M1.out.1.kept fun g hg hv => hx g hg fun h => (HAp.out g h).1 hv,fun j hj => (M1.out.2 j hj).kept fun g hg hv => hx g hg fun h => (HAp.out g h).2 j hj hv⟩
 clear hM hb1 hk1 K2 a1 cS
 go_wp2_with fail
 refine cT.mono ?_
 rintro b X2 ⟨rfl,hT2,hb2,hk2⟩
 have M2 := hQz (HMs.out X2 hk2)
 have T2 := hQz hT2
 have B2 := hQz (B1.out.trans hb2)
 have E2 : Hid (∀ b,b < w.heap.size → NotE (.slice A1 n1 c1) (.slice A3 n3 c3) L b → X2.heap[b]? = w.heap[b]?) := fun b hb hN => by
  rw [hk2 b (Nat.lt_of_lt_of_le hb B1.out.size) hN.2.2,E1.out b (Nat.lt_of_lt_of_le hb BX.out.size) hN.1 hN.2.1]
  exact BX.out.block b hb
 clear hT2 hb2 hk2 cT a2
 go_wp2_with fail
 go_ret
 exact ⟨rfl,⟨f,_,_,rfl,M2.out,by rw [hKL]; exact T2.out⟩,B2.out,E2.out⟩
set_option maxHeartbeats 2000000 in
theorem heldEngine (v : Value) (L : List (Ser × Value)) (base k n : Nat) (w : World) (h : EMk w base k v L n) (hl : L.length ≤ 5) (hp : ∀ q ∈ L,q.1.pts.length ≤ 60) (hk : 1 ≤ k) (hk2 : k ≤ 1000) (hn : n ≤ 1000) :
  Calls Tryz.prog 53 #[v,.int .i64 (k : Int)] w fun b w' => b = .returned (.int .i64 ((kAt k L L.length + n : Nat) : Int)) ∧ Below w.heap.size w w' := by
 obtain ⟨f,vc,vf,rfl,hM,hT⟩ := h
 unfold vE
 have HM : Hid (SMk w base k vc L) := hM
 have HT := hQz hT
 have hkl := (kAt_le (k := k) hp L.length (Nat.le_refl _))
 obtain ⟨A1,n1,c1,rfl⟩ := hM.1.shape
 obtain ⟨A3,n3,c3,rfl⟩ := (strs_owns hT).shape
 obtain ⟨X0,hX0⟩ : ∃ X0,X0 = w.alloc (.cells #[.int .i64 f,.slice A1 n1 c1,.slice A3 n3 c3] 35) := ⟨_,rfl⟩
 have BX : Hid (Below w.heap.size w X0) := by unfold Hid; rw [hX0]; exact (Below.refl _ w).alloc (Nat.le_refl _) _
 have K1 : Hid (Blk X0 w.heap.size #[.int .i64 f,.slice A1 n1 c1,.slice A3 n3 c3] 35) := by unfold Hid; rw [hX0]; exact Blk.new w _ _
 have cS := heldSeriesS k base (.slice A1 n1 c1) L X0 (hM.on BX.out) hl hp hk hk2
 have a1 := K1.out.cell 1 _ rfl
 clear hM hT hp
 generalize hKL : kAt k L L.length = KL at *
 clear hKL
 have q1 : (KL : Int) ≤ 2000 := by omega
 have q2 : decide ((KL : Int) < 0) = false := decide_eq_false (by omega)
 go_enter Tryz.func53,Tryz.ntmps53
 go_wp2_with fail
 rw [← hX0]
 clear hX0
 refine cS.mono ?_
 rintro b X1 ⟨rfl,hb1⟩
 have B1 := hQz (BX.out.trans (hb1.mono BX.out.size))
 have a2 := (K1.out.on hb1 K1.out.lt).cell 2 _ rfl
 have cT := held_all KL base n (.slice A3 n3 c3) X1 (HT.out.on B1.out) (by omega) (by omega) (by omega)
 clear hb1 cS a1
 generalize hkn : KL + n = kn at *
 have q3 : decide ((kn : Int) < 0) = false := decide_eq_false (by omega)
 have HKN : Hid (KL + n = kn) := hkn
 clear hkn
 go_wp2_with fail
 refine cT.mono ?_
 rintro b X2 ⟨rfl,hb2⟩
 have B2 := hQz (B1.out.trans (hb2.mono B1.out.size))
 clear hb2 cT a2
 go_wp2_with fail
 go_ret
 exact ⟨by rw [HKN.out]; rfl,B2.out⟩
section
variable {H : Type} {enc : TypeId × Value → H} {w : World} {base : Nat} {spare : Nat → Bool} {held : Bool}
end
def bkt (t : Int) : Int := if 0 ≤ t ∧ t ≤ 1099511627776 then t / 100 else -1
theorem bkt_in {t : Int} (h0 : 0 ≤ t) (h1 : t ≤ 1099511627776) : bkt t = t / 100 := if_pos ⟨h0,h1⟩
set_option maxHeartbeats 400000 in
theorem implBucket (t : Int) (w : World) :
  Calls Tryz.prog 107 #[.int .i64 t] w fun e w' => e = .returned (.int .i64 (bkt t)) ∧ w = w' := by
 by_cases h0 : t < 0
 ·have e : bkt t = -1 := if_neg (by omega)
  rw [e]
  go_enter Tryz.func107,Tryz.ntmps107
  go_wp2
  go_ret
  exact ⟨rfl,rfl⟩
 ·by_cases h1 : 1099511627776 < t
  ·have e : bkt t = -1 := if_neg (by omega)
   have h2 : ¬ t < 0 := h0
   rw [e]
   go_enter Tryz.func107,Tryz.ntmps107
   go_wp2
   go_ret
   exact ⟨rfl,rfl⟩
  ·have e : bkt t = t / 100 := bkt_in (by omega) (by omega)
   have h2 : decide (1099511627776 < t) = false := by simp; omega
   have h3 : Int.tdiv t 100 = t / 100 := Int.tdiv_eq_ediv_of_nonneg (by omega)
   have h4 : IntKind.i64.wrap (t / 100) = t / 100 := by rw [IntKind.wrap_i64]; omega
   rw [e]
   go_enter Tryz.func107,Tryz.ntmps107
   go_wp2
   go_ret
   exact ⟨rfl,rfl⟩
set_option maxHeartbeats 400000 in
theorem specBucket (t : Int) (w : World) :
  Calls Tryz.prog 23 #[.int .i64 t] w fun e w' => e = .returned (.int .i64 (bkt t)) ∧ w = w' := by
 by_cases h0 : 0 ≤ t ∧ t ≤ 1099511627776
 ·have e : bkt t = t / 100 := if_pos h0
  have cI := in_yes t 0 1099511627776 w h0.1 h0.2
  have h3 : Int.tdiv t 100 = t / 100 := Int.tdiv_eq_ediv_of_nonneg (by omega)
  have h4 : IntKind.i64.wrap (t / 100) = t / 100 := by rw [IntKind.wrap_i64]; omega
  rw [e]
  go_enter Tryz.func23,Tryz.ntmps23
  go_wp2_with fail
  refine cI.mono ?_
  rintro _ _ ⟨rfl,rfl⟩
  go_wp2
  go_ret
  exact ⟨rfl,rfl⟩
 ·have e : bkt t = -1 := if_neg h0
  have cI := in_no t 0 1099511627776 w (by omega)
  rw [e]
  go_enter Tryz.func23,Tryz.ntmps23
  go_wp2_with fail
  refine cI.mono ?_
  rintro _ _ ⟨rfl,rfl⟩
  go_wp2
  go_ret
  exact ⟨rfl,rfl⟩
def AtR (l : List Ser) (k : ByteArray) (r : Int) : Prop := (r = -1 ∧ ∀ x ∈ l,x.key ≠ k) ∨ ∃ j : Nat,r = (j : Int) ∧ j < l.length ∧ (l.getD j default).key = k ∧ ∀ i,i < j → (l.getD i default).key ≠ k
theorem ptsAt_at {k : ByteArray} : ∀ {l : List Ser} {j : Nat},j < l.length → (l.getD j default).key = k → (∀ i,i < j → (l.getD i default).key ≠ k) → ptsAt l k = (l.getD j default).pts
 | x :: l,0,_,h,_ => by
  have hx : x.key = k := h
  rw [ptsAt,if_pos hx]
  rfl
 | x :: l,j + 1,hj,h,hi => by
  have hx : x.key ≠ k := hi 0 (by omega)
  rw [ptsAt,if_neg hx]
  exact ptsAt_at (l := l) (by simpa using hj) h fun i h' => hi (i + 1) (by omega)
set_option maxHeartbeats 1000000 in
theorem specAt (l : List Ser) (key : ByteArray) (v : Value) (w : World) (B : Nat) (hv : SerV w B v l) (hn : l.length ≤ 1048576) :
  Calls Tryz.prog 145 #[v,.string key] w fun e w' => (∃ r : Int,e = .returned (.int .i64 r) ∧ Hid (AtR l key r)) ∧ w = w' := by
 obtain ⟨A,cap,rfl,hl⟩ := hv.look
 have HL : Hid (∀ j,j < l.length → ∃ g off u,A = some ⟨g,off,none⟩ ∧ g < B ∧ w.cell? ⟨g,off + j * 2,none⟩ = some (.string (l.getD j default).key) ∧ w.cell? ⟨g,off + j * 2 + 1,none⟩ = some u ∧ Lies w B 2 u (ptR (l.getD j default).pts)) := hl
 have q1 : (l.length : Int) ≤ 1048576 := by omega
 clear hl hv hn
 generalize hN : l.length = n at *
 have HN : Hid (l.length = n) := hN
 clear hN
 go_enter Tryz.func145,Tryz.ntmps145
 go_wp2_with fail
 go_loop [5] (fun v5 => ∃ k : Nat,k ≤ n ∧ v5 = .int .i64 (k : Int) ∧ Hid (∀ i,i < k → (l.getD i default).key ≠ key)) (fun i => n - (intOf i).toNat)
 case atStart => exact ⟨0,by omega,rfl,fun i hi => by omega⟩
 case round =>
  obtain ⟨k,hk,rfl,HJ⟩ := hrel
  by_cases hlt : k < n
  ·have q4 : (k : Int) < (n : Int) := by omega
   obtain ⟨g,off,u,rfl,hg,e1,e2,_⟩ := HL.out k hlt
   by_cases hkey : (l.getD k default).key = key
   ·have HF : Hid (AtR l key (k : Int)) := .inr ⟨k,rfl,by rw [HN.out]; exact hlt,hkey,HJ.out⟩
    rw [hkey] at e1
    clear hkey
    go_wp2_with fail
    go_ret
    exact ⟨⟨_,rfl,HF⟩,rfl⟩
   ·have HK : Hid ((l.getD k default).key ≠ key) := hkey
    have hne := bytes_ne hkey
    clear hkey
    generalize (l.getD k default).key = xk at e1 hne
    go_wp2_with fail
    go_round
    case rel =>
     refine ⟨k + 1,by omega,by go_num,fun i hi => ?_⟩
     by_cases e : i = k
     ·rw [e]; exact HK.out
     ·exact HJ.out i (by omega)
    case measure => simp [intOf]; omega
  ·obtain rfl : k = n := by omega
   have HF : Hid (AtR l key (-1)) := .inl ⟨rfl,fun x hx => by
    obtain ⟨j,hj,rfl⟩ := List.getElem_of_mem hx
    rw [getD_at l j hj]
    exact HJ.out j (by rw [← HN.out]; exact hj)⟩
   go_wp2_with fail
   go_ret
   exact ⟨⟨_,rfl,HF⟩,rfl⟩
theorem cntS_le (l : List Ser) (h : ∀ x ∈ l,x.pts.length ≤ 1000) : ∀ k,k ≤ l.length → cntS (l.take k) ≤ 1000 * k
 | 0,_ => by simp [cntS]
 | k + 1,hk => by
  have ih := cntS_le l h k (by omega)
  have := h _ (getD_mem l k (by omega))
  rw [cntS_snoc l k (by omega)]
  omega
set_option maxHeartbeats 1000000 in
theorem specCount (l : List Ser) (v : Value) (w : World) (B : Nat) (hv : SerV w B v l) (hn : l.length ≤ 1000) (hs : ∀ x ∈ l,x.pts.length ≤ 1000) :
  Calls Tryz.prog 59 #[v] w fun e w' => e = .returned (.int .i64 (cntS l : Int)) ∧ w = w' := by
 obtain ⟨A,cap,rfl,hl⟩ := hv.look
 have HL : Hid (∀ j,j < l.length → ∃ g off u,A = some ⟨g,off,none⟩ ∧ g < B ∧ w.cell? ⟨g,off + j * 2,none⟩ = some (.string (l.getD j default).key) ∧ w.cell? ⟨g,off + j * 2 + 1,none⟩ = some u ∧ Lies w B 2 u (ptR (l.getD j default).pts)) := hl
 have HC : Hid (∀ k,k ≤ l.length → cntS (l.take k) ≤ 1000 * k) := cntS_le l hs
 have HS : Hid (∀ k,k < l.length → cntS (l.take (k + 1)) = cntS (l.take k) + (l.getD k default).pts.length) := fun k hk => cntS_snoc l k hk
 have HT : Hid (∀ k,k = l.length → cntS (l.take k) = cntS l) := fun k hk => by rw [hk,List.take_length]
 have HM : Hid (∀ k,k < l.length → (l.getD k default).pts.length ≤ 1000) := fun k hk => hs _ (getD_mem l k hk)
 have H0 : Hid (cntS (l.take 0) = 0) := by simp [Hid,cntS]
 have q1 : (l.length : Int) ≤ 1000 := by omega
 clear hl hv hs
 generalize hN : l.length = n at *
 clear hN
 go_enter Tryz.func59,Tryz.ntmps59
 go_wp2_with fail
 go_loop [3,4] (fun v3 v4 => ∃ k : Nat,k ≤ n ∧ v4 = .int .i64 (k : Int) ∧ v3 = .int .i64 (cntS (l.take k) : Int)) (fun _ i => n - (intOf i).toNat)
 case atStart => exact ⟨0,by omega,rfl,by rw [H0.out]; rfl⟩
 case round =>
  obtain ⟨k,hk,rfl,rfl⟩ := hrel
  by_cases hlt : k < n
  ·have q4 : (k : Int) < (n : Int) := by omega
   obtain ⟨g,off,u,rfl,hg,e1,e2,hu⟩ := HL.out k hlt
   obtain ⟨A',c',rfl,_⟩ := pt_look hu
   have h1 := HC.out k hk
   have h2 := HM.out k hlt
   have h3 := HS.out k hlt
   have HE : Hid (cntS (l.take (k + 1)) = cntS (l.take k) + (l.getD k default).pts.length) := h3
   clear hu h3
   generalize cntS (l.take k) = c at *
   generalize (l.getD k default).pts.length = p at *
   have q5 : (c : Int) ≤ 1000000 := by omega
   have q6 : (p : Int) ≤ 1000 := by omega
   have w2 : wrap64 ((c : Int) + (p : Int)) = (c : Int) + (p : Int) := by unfold wrap64; omega
   go_wp2_with fail
   go_round
   case rel => exact ⟨k + 1,by omega,by go_num,by rw [HE.out]; go_num⟩
   case measure => simp [intOf]; omega
  ·obtain rfl : k = n := by omega
   have HE := HT.out k rfl
   go_wp2_with fail
   go_ret
   exact ⟨rfl,rfl⟩
def preK (ls : List (List Ser)) (i k : Nat) : List ByteArray := keysOf (ls.take i) ++ ((ls.getD i []).take k).map Ser.key
theorem keysOf_snoc (ls : List (List Ser)) (l : List Ser) : keysOf (ls ++ [l]) = keysOf ls ++ l.map Ser.key := by unfold keysOf; rw [List.flatten_append,List.map_append]; simp
theorem preK_zero (ls : List (List Ser)) : preK ls 0 0 = [] := by simp [preK,keysOf]
theorem preK_step (ls : List (List Ser)) (i k : Nat) (h : k < (ls.getD i []).length) : preK ls i (k + 1) = preK ls i k ++ [((ls.getD i []).getD k default).key] := by
 unfold preK
 rw [take_getD _ k h,List.map_append,List.append_assoc]
 rfl
theorem preK_next (ls : List (List Ser)) (i : Nat) (h : i < ls.length) : preK ls i (ls.getD i []).length = preK ls (i + 1) 0 := by
 unfold preK
 rw [List.take_length,List.take_zero,List.map_nil,List.append_nil]
 have e : ls.take (i + 1) = ls.take i ++ [ls.getD i []] := by
  rw [List.take_add_one,List.getElem?_eq_getElem h,List.getD_eq_getElem?_getD,List.getElem?_eq_getElem h]
  rfl
 rw [e,keysOf_snoc]
theorem preK_all (ls : List (List Ser)) : preK ls ls.length 0 = keysOf ls := by
 unfold preK
 rw [List.take_length,List.take_zero,List.map_nil,List.append_nil]
theorem allK_snoc (ks : List ByteArray) (k : ByteArray) : allK (ks ++ [k]) = insK (allK ks) k := by unfold allK; rw [List.foldl_append]; rfl
theorem insK_len (k : ByteArray) : ∀ l : List ByteArray,(insK l k).length ≤ l.length + 1
 | [] => by simp [insK]
 | x :: l => by
  have ih := insK_len k l
  rw [insK]
  split
  ·omega
  ·split
   ·simp
   ·simp; omega
theorem foldK_len : ∀ (ks a : List ByteArray),(ks.foldl insK a).length ≤ a.length + ks.length
 | [],a => by simp
 | k :: ks,a => by
  have h1 := foldK_len ks (insK a k)
  have h2 := insK_len k a
  rw [List.foldl_cons,List.length_cons]
  omega
theorem keysOf_len : ∀ (ls : List (List Ser)),(∀ l ∈ ls,l.length ≤ 10) → (keysOf ls).length ≤ 10 * ls.length
 | [],_ => by simp [keysOf]
 | l :: ls,h => by
  have h1 := keysOf_len ls fun m hm => h m (by simp [hm])
  have h2 := h l (by simp)
  have e : keysOf (l :: ls) = l.map Ser.key ++ keysOf ls := by simp [keysOf]
  rw [e,List.length_append,List.length_map,List.length_cons]
  omega
theorem getD_memL (ls : List (List Ser)) (i : Nat) (h : i < ls.length) : ls.getD i [] ∈ ls := by
 rw [List.getD_eq_getElem?_getD,List.getElem?_eq_getElem h]
 exact List.getElem_mem h
theorem preK_len (ls : List (List Ser)) (hl : ∀ l ∈ ls,l.length ≤ 10) (hn : ls.length ≤ 10) (i k : Nat) (hi : i ≤ ls.length) : (allK (preK ls i k)).length ≤ 200 := by
 have h1 := foldK_len (preK ls i k) []
 have h2 := keysOf_len (ls.take i) fun l hm => hl l (List.mem_of_mem_take hm)
 have h3 : (ls.take i).length ≤ 10 := by rw [List.length_take]; omega
 have h4 : ((ls.getD i []).take k).length ≤ 10 := by
  rw [List.length_take]
  by_cases h : i < ls.length
  ·have := hl _ (getD_memL ls i h)
   omega
  ·have e : ls.getD i [] = [] := by rw [List.getD_eq_getElem?_getD,List.getElem?_eq_none (by omega)]; rfl
   rw [e]; simp
 have h5 : (preK ls i k).length ≤ 200 := by
  unfold preK
  rw [List.length_append,List.length_map]
  omega
 unfold allK
 simp only [List.length_nil] at h1
 omega
set_option maxHeartbeats 2000000 in
theorem specKeys (ls : List (List Ser)) (v : Value) (w : World) (B : Nat) (hv : LayV w B v ls) (hn : ls.length ≤ 10) (hs : ∀ l ∈ ls,l.length ≤ 10) (hB : B ≤ w.heap.size) :
  Calls Tryz.prog 103 #[v] w fun e w' => (∃ u,e = .returned u ∧ Owns w' w.heap.size 9 1 u (stR (keysL ls))) ∧ Below w.heap.size w w' := by
 obtain ⟨A,cap,rfl,hl⟩ := hv.look
 have HL : Hid (∀ j,j < ls.length → ∃ g off u,A = some ⟨g,off,none⟩ ∧ g < B ∧ w.cell? ⟨g,off + j,none⟩ = some u ∧ SerV w B u (ls.getD j [])) := hl
 have HB : Hid (B ≤ w.heap.size) := hB
 have HP : Hid (∀ i k,i ≤ ls.length → (allK (preK ls i k)).length ≤ 200) := fun i k hi => preK_len ls hs hn i k hi
 have H0 : Hid (allK (preK ls 0 0) = []) := by unfold Hid; rw [preK_zero]; rfl
 have HSt : Hid (∀ i k,k < (ls.getD i []).length → allK (preK ls i (k + 1)) = insK (allK (preK ls i k)) ((ls.getD i []).getD k default).key) := fun i k h => by rw [preK_step ls i k h,allK_snoc]
 have HNx : Hid (∀ i,i < ls.length → allK (preK ls i (ls.getD i []).length) = allK (preK ls (i + 1) 0)) := fun i h => by rw [preK_next ls i h]
 have HA : Hid (allK (preK ls ls.length 0) = keysL ls) := by unfold Hid; rw [preK_all]; rfl
 have HL1 : Hid (∀ i,i < ls.length → (ls.getD i []).length ≤ 10) := fun i hi => hs _ (getD_memL ls i hi)
 have q1 : (ls.length : Int) ≤ 10 := by omega
 clear hl hv hs hB hn
 generalize hN : ls.length = n at *
 clear hN
 have BE : Hid (Below w.heap.size w (w.alloc (.cells #[] 9))) := (Below.refl _ w).alloc (Nat.le_refl _) _
 have OE : Hid (Owns (w.alloc (.cells #[] 9)) w.heap.size 9 1 (.slice (some ⟨w.heap.size,0,none⟩) 0 0) (stR [])) := Owns.empty w w.heap.size 9 1 (Nat.le_refl _)
 go_enter Tryz.func103,Tryz.ntmps103
 go_wp2_with fail
 go_loopw [3,4] (fun v3 v4 wr => ∃ i : Nat,i ≤ n ∧ v4 = .int .i64 (i : Int) ∧ Owns wr w.heap.size 9 1 v3 (stR (allK (preK ls i 0))) ∧ Below w.heap.size w wr) (fun _ i _ => n - (intOf i).toNat)
 case atStart => exact ⟨0,by omega,rfl,by rw [H0.out]; exact OE.out,BE.out⟩
 case round =>
  obtain ⟨i,hi,rfl,hO,hb⟩ := hrel
  have HO := hQz hO
  have HBr := hQz hb
  obtain ⟨A3,n3,c3,rfl⟩ := hO.shape
  clear hO hb
  by_cases hlt : i < n
  ·have q4 : (i : Int) < (n : Int) := by omega
   obtain ⟨g,off,u,rfl,hg,e1,hu⟩ := HL.out i hlt
   have hgw : g < w.heap.size := Nat.lt_of_lt_of_le hg HB.out
   have HE1 : Hid (w.cell? ⟨g,off + i,none⟩ = some u) := e1
   obtain ⟨A',c',rfl,hlu⟩ := hu.look
   have HU : Hid (∀ j,j < (ls.getD i []).length → ∃ g off u,A' = some ⟨g,off,none⟩ ∧ g < B ∧ w.cell? ⟨g,off + j * 2,none⟩ = some (.string ((ls.getD i []).getD j default).key) ∧ w.cell? ⟨g,off + j * 2 + 1,none⟩ = some u ∧ Lies w B 2 u (ptR ((ls.getD i []).getD j default).pts)) := hlu
   have hmm := HL1.out i hlt
   have HNi := hQz (HNx.out i hlt)
   have HSi : Hid (∀ k,k < (ls.getD i []).length → allK (preK ls i (k + 1)) = insK (allK (preK ls i k)) ((ls.getD i []).getD k default).key) := fun k h => HSt.out i k h
   have HPi : Hid (∀ k,(allK (preK ls i k)).length ≤ 200) := fun k => HP.out i k hi
   clear e1 hu hlu
   generalize ls.getD i [] = li at *
   generalize hm : li.length = m at *
   clear hm
   go_wp2_with fail
   go_loopw [3,5] (fun v3 v5 wr' => ∃ k : Nat,k ≤ m ∧ v5 = .int .i64 (k : Int) ∧ Owns wr' w.heap.size 9 1 v3 (stR (allK (preK ls i k))) ∧ Below w.heap.size w wr') (fun _ i _ => m - (intOf i).toNat)
   case atStart => exact ⟨0,by omega,rfl,HO.out,HBr.out⟩
   case round =>
    obtain ⟨k,hk,rfl,hO,hb⟩ := hrel
    have HO2 := hQz hO
    have HB2 := hQz hb
    obtain ⟨A4,n4,c4,rfl⟩ := hO.shape
    clear hO hb
    have e1 := HE1.out
    rw [← HB2.out.cell (p := ⟨_,_,none⟩) hgw] at e1
    by_cases hkm : k < m
    ·have q5 : (k : Int) < (m : Int) := by omega
     obtain ⟨g2,off2,u2,rfl,hg2,d1,d2,_⟩ := HU.out k hkm
     rw [← HB2.out.cell (p := ⟨_,_,none⟩) (Nat.lt_of_lt_of_le hg2 HB.out)] at d1
     have c1 := specName (allK (preK ls i k)) (li.getD k default).key (.slice A4 n4 c4) wr w.heap.size HO2.out (by have := HPi.out k; omega) (rise_allK _) HB2.out.size
     have HE := hQz (HSi.out k hkm)
     generalize (li.getD k default).key = x at d1 c1 HE
     go_wp2_with fail
     refine c1.mono ?_
     rintro e w2 ⟨⟨u,rfl,hO⟩,hb⟩
     have O3 : Hid (Owns w2 w.heap.size 9 1 u (stR (allK (preK ls i (k + 1))))) := by unfold Hid; rw [HE.out]; exact hO
     have B3 := hQz (HB2.out.trans (hb.mono HB2.out.size))
     clear hO hb c1
     go_wp2_with fail
     go_roundw
     case rel => exact ⟨k + 1,by omega,by go_num,O3.out,B3.out⟩
     case measure => simp [intOf]; omega
    ·obtain rfl : k = m := by omega
     go_wp2_with fail
     go_roundw
     case rel => exact ⟨i + 1,by omega,by go_num,by rw [← HNi.out]; exact HO2.out,HB2.out⟩
     case measure => simp [intOf]; omega
  ·obtain rfl : i = n := by omega
   go_wp2_with fail
   go_ret
   refine ⟨⟨_,rfl,?_⟩,HBr.out⟩
   rw [← HA.out]
   exact HO.out
theorem hasAll_take (ls : List (List Ser)) (key : ByteArray) (i : Nat) (h : i < ls.length) : hasAll (ls.take (i + 1)) key = mrg (hasAll (ls.take i) key) (ptsAt (ls.getD i []) key) := by
 have e : ls.take (i + 1) = ls.take i ++ [ls.getD i []] := by
  rw [List.take_add_one,List.getElem?_eq_getElem h,List.getD_eq_getElem?_getD,List.getElem?_eq_getElem h]
  rfl
 rw [e,hasAll_snoc]
def LFew (ls : List (List Ser)) : Prop := ls.length ≤ 10 ∧ ∀ l ∈ ls,l.length ≤ 10 ∧ ∀ x ∈ l,x.pts.length ≤ 200
theorem ptsAt_few {l : List Ser} (h : ∀ x ∈ l,x.pts.length ≤ 200) (k : ByteArray) : (ptsAt l k).length ≤ 200 := by
 rcases ptsAt_some (k := k) (l := l) with e | ⟨x,hx,_,e⟩
 ·rw [e]; simp
 ·rw [e]; exact h x hx
theorem LFew.has {ls : List (List Ser)} (h : LFew ls) (key : ByteArray) (i : Nat) : (hasAll (ls.take i) key).length ≤ 2000 := by
 have h1 := hasAll_len key 200 (ls.take i) [] fun l hl => ptsAt_few (h.2 l (List.mem_of_mem_take hl)).2 key
 have h2 : (ls.take i).length ≤ 10 := by rw [List.length_take]; have := h.1; omega
 unfold hasAll
 simp only [List.length_nil] at h1
 omega
set_option maxHeartbeats 2000000 in
theorem specHas (ls : List (List Ser)) (f : Int) (key : ByteArray) (v : Value) (w : World) (B : Nat) (hv : LayV w B v ls) (hf : LFew ls) (hB : B ≤ w.heap.size) :
  Calls Tryz.prog 104 #[v,.int .i64 f,.string key] w fun e w' => (∃ u,e = .returned u ∧ Owns w' w.heap.size 98 2 u (ptR ((hasAll ls key).filter (inP f 1099511627777)))) ∧ Below w.heap.size w w' := by
 obtain ⟨A,cap,rfl,hl⟩ := hv.look
 have HL : Hid (∀ j,j < ls.length → ∃ g off u,A = some ⟨g,off,none⟩ ∧ g < B ∧ w.cell? ⟨g,off + j,none⟩ = some u ∧ SerV w B u (ls.getD j [])) := hl
 have HB : Hid (B ≤ w.heap.size) := hB
 have HF : Hid (LFew ls) := hf
 have HH : Hid (∀ i,(hasAll (ls.take i) key).length ≤ 2000) := hf.has key
 have HT : Hid (∀ i,i < ls.length → hasAll (ls.take (i + 1)) key = mrg (hasAll (ls.take i) key) (ptsAt (ls.getD i []) key)) := hasAll_take ls key
 have HA : Hid (hasAll (ls.take ls.length) key = hasAll ls key) := by unfold Hid; rw [List.take_length]
 have H0 : Hid (hasAll (ls.take 0) key = []) := rfl
 have q1 : (ls.length : Int) ≤ 10 := by have := hf.1; omega
 clear hl hv hB hf
 generalize hN : ls.length = n at *
 have HN : Hid (ls.length = n) := hN
 clear hN
 have BE : Hid (Below w.heap.size w (w.alloc (.cells #[] 98))) := (Below.refl _ w).alloc (Nat.le_refl _) _
 have OE : Hid (Owns (w.alloc (.cells #[] 98)) w.heap.size 98 2 (.slice (some ⟨w.heap.size,0,none⟩) 0 0) (ptR [])) := Owns.empty w w.heap.size 98 2 (Nat.le_refl _)
 go_enter Tryz.func104,Tryz.ntmps104
 go_wp2_with fail
 go_loopw [7,8] (fun v7 v8 wr => ∃ i : Nat,i ≤ n ∧ v8 = .int .i64 (i : Int) ∧ Owns wr w.heap.size 98 2 v7 (ptR (hasAll (ls.take i) key)) ∧ Below w.heap.size w wr) (fun _ i _ => n - (intOf i).toNat)
 case atStart => exact ⟨0,by omega,rfl,by rw [H0.out]; exact OE.out,BE.out⟩
 case round =>
  obtain ⟨i,hi,rfl,hO,hb⟩ := hrel
  have HO := hQz hO
  have HBr := hQz hb
  obtain ⟨A3,n3,c3,rfl⟩ := hO.shape
  clear hO hb
  by_cases hlt : i < n
  ·have q4 : (i : Int) < (n : Int) := by omega
   obtain ⟨g,off,u,rfl,hg,e1,hu⟩ := HL.out i hlt
   have hgw : g < w.heap.size := Nat.lt_of_lt_of_le hg HB.out
   rw [← HBr.out.cell (p := ⟨_,_,none⟩) hgw] at e1
   have hfi := HF.out.2 _ (getD_memL ls i (by rw [HN.out]; exact hlt))
   have huw : SerV wr B u (ls.getD i []) := hu.on (HBr.out.mono HB.out)
   have c1 := specAt (ls.getD i []) key u wr B huw (by have := hfi.1; omega)
   obtain ⟨A',c',rfl,hlu⟩ := huw.look
   have HU : Hid (∀ j,j < (ls.getD i []).length → ∃ g off u,A' = some ⟨g,off,none⟩ ∧ g < B ∧ wr.cell? ⟨g,off + j * 2,none⟩ = some (.string ((ls.getD i []).getD j default).key) ∧ wr.cell? ⟨g,off + j * 2 + 1,none⟩ = some u ∧ Lies wr B 2 u (ptR ((ls.getD i []).getD j default).pts)) := hlu
   have HTi := hQz (HT.out i hlt)
   have HFi : Hid (∀ x ∈ ls.getD i [],x.pts.length ≤ 200) := hfi.2
   have HHi := hQz (HH.out i)
   have qm := hfi.1
   clear hu huw hlu hfi
   generalize ls.getD i [] = li at *
   generalize hasAll (ls.take i) key = a at *
   generalize hm : li.length = m at *
   have HM : Hid (li.length = m) := hm
   clear hm
   have qm' : (m : Int) ≤ 10 := by omega
   go_wp2_with fail
   refine c1.mono ?_
   rintro e w2 ⟨⟨r,rfl,HR⟩,rfl⟩
   rcases HR.out with ⟨rfl,hno⟩ | ⟨j,rfl,hj,hk,hnk⟩
   ·have HE : Hid (hasAll (ls.take (i + 1)) key = a) := by unfold Hid; rw [HTi.out,ptsAt_none hno,mrg_nil]
    clear hno HTi c1 HR
    go_wp2_with fail
    go_roundw
    case rel => exact ⟨i + 1,by omega,by go_num,by rw [HE.out]; exact HO.out,HBr.out⟩
    case measure => simp [intOf]; omega
   ·rw [HM.out] at hj
    have q5 : (j : Int) < (m : Int) := by omega
    obtain ⟨g2,off2,u2,rfl,hg2,d1,d2,hu2⟩ := HU.out j hj
    have HE : Hid (hasAll (ls.take (i + 1)) key = mrg a (li.getD j default).pts) := by unfold Hid; rw [HTi.out,ptsAt_at (by rw [HM.out]; exact hj) hk hnk]
    have hpl := HFi.out _ (getD_mem li j (by rw [HM.out]; exact hj))
    have c2 := specMergeL a (li.getD j default).pts (.slice A3 n3 c3) u2 wr wr.heap.size HO.out.lies (hu2.mono (Nat.le_trans HB.out HBr.out.size)) (by have := HHi.out; omega) (Nat.le_refl _)
    obtain ⟨A6,c6,rfl,_⟩ := pt_look hu2
    have Z := hQz (HBr.out.size)
    clear hk hnk HTi c1 HR d1 hu2
    generalize (li.getD j default).pts = pj at *
    generalize pj.length = pl at *
    go_wp2_with fail
    refine c2.mono ?_
    rintro e w2 ⟨⟨u,rfl,hO⟩,hb⟩
    have O3 : Hid (Owns w2 w.heap.size 98 2 u (ptR (hasAll (ls.take (i + 1)) key))) := by unfold Hid; rw [HE.out]; exact hO.mono Z.out
    have B3 := hQz (HBr.out.trans (hb.mono Z.out))
    clear hO hb c2
    go_wp2_with fail
    go_roundw
    case rel => exact ⟨i + 1,by omega,by go_num,O3.out,B3.out⟩
    case measure => simp [intOf]; omega
  ·obtain rfl : i = n := by omega
   have c2 := specSliceL (hasAll (ls.take i) key) f 1099511627777 (.slice A3 n3 c3) wr wr.heap.size HO.out.lies (by have := HH.out i; omega) (Nat.le_refl _)
   rw [HA.out] at c2
   have Z := hQz (HBr.out.size)
   go_wp2_with fail
   refine c2.mono ?_
   rintro e w2 ⟨⟨u,rfl,hO⟩,hb⟩
   have O3 := hQz (hO.mono Z.out)
   have B3 := hQz (HBr.out.trans (hb.mono Z.out))
   clear hO hb c2
   go_wp2_with fail
   go_ret
   exact ⟨⟨_,rfl,O3.out⟩,B3.out⟩
def fourN (l : List Ser) (j i : Nat) : Nat := if i = 0 then atB l j else if i = 1 then (blkB l j).length else if i = 2 then fT l j else lT l j
theorem four_cat (l : List Ser) (j : Nat) : cat (fun i => vF 6 (fourN l j i)) 4 = vF 6 (atB l j) ++ (vF 6 (blkB l j).length ++ (vF 6 (fT l j) ++ vF 6 (lT l j))) := by
 rw [cat_succ,cat_succ,cat_succ,cat_succ,cat_zero]
 simp only [fourN,List.nil_append,List.append_assoc]
 rfl
theorem GoodF.ends {s : ByteArray} {m : List Ser} (h : GoodF s m) : s.size - 8 = posF m m.length ∧ 12 ≤ s.size ∧ rdv (rest s (s.size - 8)) 4 = posF m 0 ∧ posF m 0 ≤ s.size - 8 := by
 have hp := posF_end h.2.1
 obtain ⟨h1,h2⟩ := begin_read h.2.1
 rw [h.text] at *
 have ee : (txt (fileB m)).size - 8 = posF m m.length := by rw [txt_size]; omega
 have h0 : posF m 0 = atB m m.length := by unfold posF idxB; rw [cat_zero]; rfl
 refine ⟨ee,h2,by rw [h1,h0],?_⟩
 rw [ee]
 rcases Nat.eq_zero_or_pos m.length with h3 | h3
 ·rw [h3]; exact Nat.le_refl _
 ·exact Nat.le_of_lt (posF_lt h.2.1 0 h3)
theorem GoodF.more {s : ByteArray} {m : List Ser} (h : GoodF s m) (k : Nat) (hk : k ≤ m.length) (hp : posF m k < s.size - 8) : k < m.length := by
 rcases Nat.lt_or_ge k m.length with h1 | h1
 ·exact h1
 ·exfalso
  have : k = m.length := by omega
  subst this
  rw [h.ends.1] at hp
  omega
theorem GoodF.last {s : ByteArray} {m : List Ser} (h : GoodF s m) (k : Nat) (hk : k ≤ m.length) (hp : ¬ posF m k < s.size - 8) : k = m.length := by
 rcases Nat.lt_or_ge k m.length with h1 | h1
 ·exfalso
  rw [h.ends.1] at hp
  exact hp (posF_lt h.2.1 k h1)
 ·omega
theorem GoodF.step {s : ByteArray} {m : List Ser} (h : GoodF s m) (k : Nat) (hk : k < m.length) (p : Nat) (hp : p = posF m k) :
  rvN (s.extract p (s.size - 8)) = (sAt m k).key.size ∧ 1 ≤ rvK (s.extract p (s.size - 8)) ∧ p + rvK (s.extract p (s.size - 8)) + (sAt m k).key.size ≤ s.size - 8 ∧
  s.extract (p + rvK (s.extract p (s.size - 8))) (p + rvK (s.extract p (s.size - 8)) + (sAt m k).key.size) = (sAt m k).key ∧
  Rd (s.extract (p + rvK (s.extract p (s.size - 8)) + (sAt m k).key.size) (s.size - 8)) 4 (rowOf (fun i => (fourN m k i : Int)) 4) (cat (fun i => vF 6 (fourN m k i)) 4).length ∧
  p + rvK (s.extract p (s.size - 8)) + (sAt m k).key.size + (cat (fun i => vF 6 (fourN m k i)) 4).length = posF m (k + 1) ∧
  atB m k ≤ s.size ∧ (blkB m k).length ≤ s.size - atB m k ∧ s.extract (atB m k) (atB m k + (blkB m k).length) = showB (sAt m k).pts := by
 have hok := h.2.1
 obtain ⟨hend,h12,_,_⟩ := h.ends
 obtain ⟨a,b,hf,ha,hb⟩ := file_at m k hk
 obtain ⟨n1,n2,n3,n4,n5⟩ := nums_le hok k hk
 have hs := h.text
 have hblk := blk_read (l := m) k hk
 have hsp : spB m k = vF 6 (sAt m k).key.size ++ (bl (sAt m k).key ++ cat (fun i => vF 6 (fourN m k i)) 4) := by rw [four_cat]; rfl
 have hlen : posF m m.length = a.length + (spB m k ++ b).length := by
  rw [ha]
  unfold posF
  rw [hb]
  simp only [List.length_append]
  omega
 subst hp
 rw [← ha]
 generalize hK : (sAt m k).key = K at *
 generalize hC : cat (fun i => vF 6 (fourN m k i)) 4 = C at *
 generalize hT : low (atB m m.length) 4 ++ low (crc (txt (bodyF m))) 4 = T at *
 have e0 : fileB m = a ++ ((spB m k ++ b) ++ T) := by rw [hf]; simp only [List.append_assoc]
 have x0 : s.extract a.length (s.size - 8) = txt (vF 6 K.size ++ (bl K ++ (C ++ b))) := by
  rw [hend,hlen,hs,e0,extract_mid,hsp]
  simp only [List.append_assoc]
 have hr := rv_var K.size (bl K ++ (C ++ b)) n1
 rw [← x0] at hr
 rw [hr.1,hr.2]
 have hpos : 1 ≤ (vF 6 K.size).length := vF_pos _ _
 have hsl : (spB m k ++ b).length = (vF 6 K.size).length + (K.size + (C.length + b.length)) := by rw [hsp]; simp only [List.length_append,bl_length]; omega
 have e1 : fileB m = (a ++ vF 6 K.size) ++ (bl K ++ (C ++ b ++ T)) := by rw [e0,hsp]; simp only [List.append_assoc]
 have e2 : fileB m = (a ++ vF 6 K.size ++ bl K) ++ ((C ++ b) ++ T) := by rw [e0,hsp]; simp only [List.append_assoc]
 have x1 := extract_mid (a ++ vF 6 K.size) (bl K) (C ++ b ++ T)
 rw [← e1,← hs,List.length_append,bl_length,txt_bl] at x1
 have x2 := extract_mid (a ++ vF 6 K.size ++ bl K) (C ++ b) T
 rw [← e2,← hs,List.length_append,List.length_append,bl_length] at x2
 have e3 : a.length + (vF 6 K.size).length + K.size + (C ++ b).length = s.size - 8 := by rw [hend,hlen,hsl,List.length_append]; omega
 rw [e3] at x2
 have hrd := rd_cat (fourN m k) 4 (fun i _ => by unfold fourN; split; exact n2; split; exact n3; split; exact n4; exact n5) b 4 (Nat.le_refl _)
 rw [hC] at hrd
 have hat : atB m k + (blkB m k).length ≤ s.size := by
  obtain ⟨c,hc⟩ := cat_split (blkB m) k m.length hk
  have e4 : (blks m m.length).length = (blks m k).length + ((blkB m k).length + c.length) := by
   show (cat (blkB m) m.length).length = _
   rw [hc]
   simp only [List.length_append]
   rfl
  have := bodyF_length hok
  rw [hs,txt_size,fileB_length,this.1]
  unfold atB
  omega
 refine ⟨rfl,hpos,?_,x1,?_,?_,by omega,by omega,?_⟩
 ·rw [hend,hlen,hsl]
  omega
 ·rw [x2]
  exact hrd
 ·rw [posF_succ,← ha,hsp]
  simp only [List.length_append,bl_length]
  omega
 ·rw [← hs] at hblk
  rw [← hblk]
  unfold blkA spotOf tk
  simp only
  rw [show min (atB m k) s.size = atB m k by omega,show min (atB m k + (blkB m k).length) s.size = atB m k + (blkB m k).length by omega]
theorem four_at (m : List Ser) (k : Nat) : (rowOf (fun i => (fourN m k i : Int)) 4).getD 0 0 = (atB m k : Int) ∧ (rowOf (fun i => (fourN m k i : Int)) 4).getD 1 0 = ((blkB m k).length : Int) := ⟨rfl,rfl⟩
theorem take_sAt {m : List Ser} (k : Nat) (hk : k < m.length) : m.take (k + 1) = m.take k ++ [sAt m k] := take_getD m k hk
theorem GoodF.pts {s : ByteArray} {m : List Ser} (h : GoodF s m) (k : Nat) (hk : k < m.length) : Good (showB (sAt m k).pts) (sAt m k).pts := ⟨(h.2.1.2 k hk).2.1,(h.2.1.2 k hk).2.2,rfl⟩
set_option maxRecDepth 20000 in
set_option maxHeartbeats 4000000 in
theorem specReadBlock (s : ByteArray) (w : World) (hs : s.size ≤ 1048576) : Calls Tryz.prog 165 #[.string s] w fun e w' => (∃ u l ok,RbAns s l ok ∧ e = .returned (.tuple #[u,.bool ok]) ∧ Owns w' w.heap.size 98 2 u (ptR l)) ∧ Below w.heap.size w w' := by
 obtain ⟨k0,c0,hu,hk0⟩ := unf_body s
 have HK0 : Hid ((code s = 0 ∧ k0 = 8 + rdv s 4) ∨ (code s ≠ 0 ∧ k0 = 0 ∧ bodyR s = ⟨#[]⟩)) := hk0
 have cU := fun wx => spec_unframe s wx hs
 rw [hu] at cU
 have hbz := bodyR_size s
 have qs : (s.size : Int) ≤ 1048576 := by omega
 have q0 : (k0 : Int) ≤ 3000 := by
  rcases hk0 with ⟨h1,h2⟩ | ⟨_,h2,_⟩
  ·have := ((code_zero s).1 h1).2.2.1; omega
  ·omega
 have E0 : Hid (Owns (w.alloc (.cells #[] 98)) w.heap.size 98 2 (.slice (some ⟨w.heap.size,0,none⟩) 0 0) (ptR [])) := Owns.empty w _ _ _ (Nat.le_refl _)
 have B0 : Hid (Below w.heap.size w (w.alloc (.cells #[] 98))) := (Below.refl _ _).alloc (Nat.le_refl _) _
 clear hu hk0
 go_enter Tryz.func165,Tryz.ntmps165
 go_wp2_with fail
 generalize w.alloc (.cells #[] 98) = w0 at *
 refine (cU w0).mono ?_
 rintro e w1 ⟨rfl,hb⟩
 have B1 := hQz (B0.out.trans (hb.mono B0.out.size))
 have E1 := hQz (E0.out.on hb)
 clear hb cU
 have cV := spec_readVar (bodyR s) w1 (by omega)
 go_wp2_with fail
 refine cV.mono ?_
 rintro e w2 ⟨hRV,hb⟩
 obtain ⟨n,k,hRd,rfl⟩ := hRV.rd
 have hle := hRd.le
 have HR : Hid (RdV (bodyR s) n k) := hRd
 have B2 := hQz (B1.out.trans (hb.mono B1.out.size))
 have E2 := hQz (E1.out.on hb)
 have qk : (k : Int) ≤ 7 := by omega
 have qb : ((bodyR s).size : Int) ≤ 2000 := by omega
 have qkb : (k : Int) ≤ ((bodyR s).size : Int) := by omega
 have hkb : k ≤ (bodyR s).size := hle.1
 have HKG : Hid (∀ m,Good s m → k ≠ 0 ∧ k0 = s.size) := fun m hm => by
  have h1 := (HR.out.one hm.steps.rn).2
  have h2 := vF_pos 6 m.length
  obtain ⟨r1,r2,_⟩ := hm.read
  rcases HK0.out with ⟨_,h3⟩ | ⟨h3,_⟩
  ·exact ⟨by omega,by omega⟩
  ·exact absurd r1 h3
 clear hRd hRV cV hle hb
 by_cases hk1 : k = 0
 ·have HNO : Hid (∀ m,¬ Good s m) := fun m hm => (HKG.out m hm).1 hk1
  subst hk1
  go_wp2_with fail
  go_ret2
  exact ⟨⟨_,[],false,.inr ⟨rfl,rfl,HNO.out⟩,rfl,E2.out⟩,B2.out⟩
 have d0 : decide (k = 0) = false := decide_eq_false hk1
 have d1 : ((k : Int) == 0) = false := by rw [beq_eq_false_iff_ne]; omega
 by_cases hk2 : k0 ≠ s.size
 ·have HNO : Hid (∀ m,¬ Good s m) := fun m hm => hk2 (HKG.out m hm).2
  have d2 : ((k0 : Int) == (s.size : Int)) = false := by rw [beq_eq_false_iff_ne]; omega
  have d3 : ¬ k0 = s.size := hk2
  go_wp2_with fail
  go_ret2
  exact ⟨⟨_,[],false,.inr ⟨rfl,rfl,HNO.out⟩,rfl,E2.out⟩,B2.out⟩
 have hk2' : k0 = s.size := Decidable.not_not.1 hk2
 have HK2 : Hid (k0 = s.size) := hk2'
 have d2 : ((k0 : Int) == (s.size : Int)) = true := beq_iff_eq.2 (by omega)
 clear hk2
 have cT := specReadTimesA ((bodyR s).extract k (bodyR s).size) n w2 (by rw [ByteArray.size_extract]; omega)
 subst hk2'
 go_wp2_with fail
 refine cT.mono ?_
 rintro e w3 ⟨⟨t,a,ut,hAT,rfl,hNT⟩,hb⟩
 have HAT : Hid (RdAns showT rowT ((bodyR s).extract k (bodyR s).size) n t a) := hAT
 have hsh := hAT.short rowT_length
 have LT : Hid (t.length ≤ 60) := hsh.1
 have hak : k + a ≤ (bodyR s).size := by have h2 := hsh.2; rw [ByteArray.size_extract] at h2; omega
 have B3 := hQz (B2.out.trans (hb.mono B2.out.size))
 have E3 := hQz (E2.out.on hb)
 have NT := hQz hNT
 have qa : (k : Int) + (a : Int) ≤ ((bodyR s).size : Int) := by omega
 have qa1 : (a : Int) ≤ 2000 := by omega
 have ena : ((k : Int) + (a : Int)).toNat = k + a := by omega
 have HAG : Hid (∀ m,Good s m → a ≠ 0) := fun m hm => by
  have hst := hm.steps
  obtain ⟨e1,e2⟩ := HR.out.one hst.rn
  subst e1
  subst e2
  have h1 := (HAT.out.one hst.rt).2
  have h2 := cat_pos (tPiece (ts m)) m.length hm.1 (vF_pos _ _)
  omega
 clear hAT hNT hb cT hsh
 by_cases ha : a = 0
 ·have HNO : Hid (∀ m,¬ Good s m) := fun m hm => HAG.out m hm ha
  subst ha
  go_wp2_with fail
  go_ret2
  exact ⟨⟨_,[],false,.inr ⟨rfl,rfl,HNO.out⟩,rfl,E3.out⟩,B3.out⟩
 have d4 : decide (a = 0) = false := decide_eq_false ha
 have d5 : ((a : Int) == 0) = false := by rw [beq_eq_false_iff_ne]; omega
 have cW := specReadValuesA ((bodyR s).extract (k + a) (bodyR s).size) n w3 (by rw [ByteArray.size_extract]; omega)
 go_wp2_with fail
 refine cW.mono ?_
 rintro e w4 ⟨⟨v,b,uv,hAV,rfl,hNV⟩,hb⟩
 have HST : Hid (Steps s n k t a v b) := ⟨HR.out,HAT.out,hAV⟩
 have hsv := hAV.short rowV_length
 have LV : Hid (v.length ≤ 60) := hsv.1
 have hbk : k + a + b ≤ (bodyR s).size := by have h2 := hsv.2; rw [ByteArray.size_extract] at h2; omega
 have B4 := hQz (B3.out.trans (hb.mono B3.out.size))
 have E4 := hQz (E3.out.on hb)
 have NT4 := hQz (NT.out.on hb)
 have NV4 := hQz hNV
 have qb1 : (b : Int) ≤ 2000 := by omega
 have qab : (k : Int) + (a : Int) + (b : Int) ≤ ((bodyR s).size : Int) := by omega
 clear hAV hNV hb cW NT hsv
 by_cases hb0 : b = 0
 ·have HNO : Hid (∀ m,¬ Good s m) := fun m hm => by have := (HST.out.good hm).2.2.2.2.2.2.1; omega
  subst hb0
  go_wp2_with fail
  go_ret2
  exact ⟨⟨_,[],false,.inr ⟨rfl,rfl,HNO.out⟩,rfl,E4.out⟩,B4.out⟩
 have d6 : decide (b = 0) = false := decide_eq_false hb0
 have d7 : ((b : Int) == 0) = false := by rw [beq_eq_false_iff_ne]; omega
 by_cases hlen : k + a + b ≠ (bodyR s).size
 ·have HNO : Hid (∀ m,¬ Good s m) := fun m hm => hlen (HST.out.good hm).2.2.2.2.2.2.2
  have d8 : ((k : Int) + (a : Int) + (b : Int) == ((bodyR s).size : Int)) = false := by rw [beq_eq_false_iff_ne]; omega
  have d9 : ¬ (k : Int) + (a : Int) + (b : Int) = ((bodyR s).size : Int) := by omega
  go_wp2_with fail
  go_ret2
  exact ⟨⟨_,[],false,.inr ⟨rfl,rfl,HNO.out⟩,rfl,E4.out⟩,B4.out⟩
 have hlen' : k + a + b = (bodyR s).size := Decidable.not_not.1 hlen
 have d8 : ((k : Int) + (a : Int) + (b : Int) == ((bodyR s).size : Int)) = true := beq_iff_eq.2 (by omega)
 have d10 : ((k : Int) + (a : Int) + (b : Int) != ((bodyR s).size : Int)) = false := by rw [bne,d8]; rfl
 have hc : code s = 0 := by
  rcases HK0.out with ⟨h1,_⟩ | ⟨_,_,h3⟩
  ·exact h1
  ·rw [h3] at hkb
   have : (ByteArray.mk #[]).size = 0 := rfl
   omega
 have h8 : 8 + rdv s 4 = s.size := by
  rcases HK0.out with ⟨_,h1⟩ | ⟨h1,_⟩
  ·omega
  ·exact absurd hc h1
 obtain ⟨hg,htv,hn⟩ := HST.out.back hc h8 hk1 ha hb0 hlen'
 have HG : Hid (Good s (zipP t v)) := hg
 have HZL : Hid ((zipP t v).length = t.length) := by unfold Hid; rw [zipP_length]; omega
 have HZG : Hid (∀ k,k < t.length → k < v.length → (zipP t v).take (k + 1) = (zipP t v).take k ++ [⟨t.getD k 0,v.getD k 0⟩]) := zipP_get t v
 subst hn
 obtain ⟨At,ct,rfl,_,_,h1⟩ := NT4.out.lies
 obtain ⟨Av,cv,rfl,_,_,h2⟩ := NV4.out.lies
 have HT : Hid (∀ j,j < t.length → ∃ g off,At = some ⟨g,off,none⟩ ∧ g < w4.heap.size ∧ w4.cell? ⟨g,off + j,none⟩ = some (.int .i64 (t.getD j 0))) := h1
 have HV : Hid (∀ j,j < v.length → ∃ g off,Av = some ⟨g,off,none⟩ ∧ g < w4.heap.size ∧ w4.cell? ⟨g,off + j,none⟩ = some (.int .i64 (v.getD j 0))) := h2
 have q9 : (t.length : Int) ≤ 60 := by have := LT.out; omega
 clear h1 h2 hlen hg HAG HKG HK0 HK2 hbk
 generalize hm : v.length = m at *
 generalize hn : t.length = N at *
 subst htv
 clear hm hn
 go_wp2_with fail
 go_loopw [14,15] (fun v14 v15 wr => ∃ k : Nat,k ≤ N ∧ v15 = .int .i64 (k : Int) ∧ Owns wr w4.heap.size 98 2 v14 (ptR ((zipP t v).take k)) ∧ Below w4.heap.size w4 wr) (fun _ i _ => N - (intOf i).toNat)
 case atStart => exact ⟨0,by omega,rfl,by rw [List.take_zero]; exact Owns.empty w4 _ _ _ (Nat.le_refl _),(Below.refl _ _).alloc (Nat.le_refl _) _⟩
 case round =>
  clear hlen' d8 ena hc h8 hak hkb d0 d1 d2 d4 d5 d6 d7 hk1 ha hb0 qab qa qkb
  obtain ⟨k,hk,rfl,hO,hb⟩ := hrel
  have HO := hQz hO
  have HB1 := hQz hb
  clear hO hb
  by_cases hlt : k < N
  ·have q3 : (k : Int) < (N : Int) := by omega
   obtain ⟨gt,ot,rfl,hgt,hc1⟩ := HT.out k hlt
   obtain ⟨gv,ov,rfl,hgv,hc2⟩ := HV.out k hlt
   have HZ := hQz (HZG.out k hlt hlt)
   rw [← HB1.out.cell (p := ⟨_,_,none⟩) hgt] at hc1
   rw [← HB1.out.cell (p := ⟨_,_,none⟩) hgv] at hc2
   generalize t.getD k 0 = x at *
   generalize v.getD k 0 = y at *
   have hz : w4.heap.size ≤ wr.drew.heap.size := HB1.out.size
   obtain ⟨nA,nm,nc,w5,r5,hO5,hb5,hk5,_⟩ := run_append_row (P := Tryz.prog) wr.drew 99 99 98 (.agg #[.int .i64 0,.int .i64 0]) 2 16 Tryz.underlying99 Tryz.infoPt rfl (by omega) w4.heap.size u14 (ptR ((zipP t v).take k)) (HO.out.kept fun _ _ _ => rfl) [.int .i64 x,.int .i64 y] rfl (pt_cells x y) (by rw [ptR_length,List.length_take]; omega) (by omega) hz
   have B5 := hQz ((HB1.out.drew).trans hb5)
   have O5 : Hid (Owns w5 w4.heap.size 98 2 (.slice nA nm nc) (ptR ((zipP t v).take (k + 1)))) := by unfold Hid; rw [HZ.out,ptR_snoc']; exact hO5
   have S0 : Hid (wr.drew.cell? ⟨gt,ot + k,none⟩ = some (.int .i64 x) ∧ wr.drew.cell? ⟨gv,ov + k,none⟩ = some (.int .i64 y)) := ⟨hc1,hc2⟩
   clear hc1 hc2 hO5 hb5 hk5
   clear hgt hgv
   go_wp2_with fail
   refine wp_region_until (fun w' => w'.cell? ⟨gt,ot + k,none⟩ = some (.int .i64 x) ∧ w'.cell? ⟨gv,ov + k,none⟩ = some (.int .i64 y)) (fun i => i == 11 || i == 12) 13 (by rfl) (by kernel_rfl) ?_
   refine tKf 0 S0.out ?_
   refine tKf 1 S0.out ?_
   refine tKf 2 S0.out ?_
   refine tKf 3 S0.out ?_
   refine tKf 4 S0.out ?_
   refine tKf 5 S0.out ?_
   refine tKf 6 S0.out ?_
   refine tKf 7 S0.out ?_
   refine tKf 8 S0.out ?_
   refine tKf 9 S0.out ?_
   refine uNe 10 (fun K hK => ?_)
   go_simp
   refine hK.out _ _ (fun _ h => ⟨cell_alloc_keep h.1 _,cell_alloc_keep h.2 _⟩) ?_
   clear hK K
   try simp only [Act.put,zQ1,zQ2,zQ3]
   refine uNe 11 (fun K hK => ?_)
   refine step_append_run (by rfl) (.tmp 77) (.tmp 87) 99 (by rfl) _ _ _ _ (by rfl) (by rfl) r5 ?_
   refine hK.out _ _ (fun h => by cases h) ?_
   clear hK K
   try simp only [Act.put,zQ1,zQ2,zQ3]
   refine uNe 12 (fun K hK => ?_)
   go_simp
   refine hK.out _ _ (fun h => by cases h) ?_
   clear hK K
   try simp only [Act.put,zQ1,zQ2,zQ3]
   refine until_done (by kernel_rfl) ?_ _
   go_wp2_with fail
   go_roundw
   case rel => exact ⟨k + 1,by omega,by go_num,O5.out,B5.out⟩
   case measure => simp [intOf]; omega
  ·obtain rfl : k = N := by omega
   have hF := HO.out
   rw [List.take_of_length_le (by rw [HZL.out]; exact Nat.le_refl _)] at hF
   have HF := hQz (hF.mono B4.out.size)
   have BF := hQz (B4.out.trans (HB1.out.mono B4.out.size))
   clear hF HO
   go_wp2_with fail
   go_ret2
   exact ⟨⟨_,zipP t v,true,.inl ⟨rfl,HG.out⟩,rfl,HF.out⟩,BF.out⟩
end Go.Proofs.YthhamlahdjokkaaGreatDoor
