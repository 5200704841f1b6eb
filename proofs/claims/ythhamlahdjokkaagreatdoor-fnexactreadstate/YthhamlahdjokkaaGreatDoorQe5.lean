/- FlAid FlWrite FlRead BtOk BtRise BldLay BtDif BtTim BtTimI -/
import Derived.Test.YthhamlahdjokkaaGreatDoorQe4
open List (setIfInBounds_toArray set_cons_zero set_cons_succ)
namespace Go.Proofs.YthhamlahdjokkaaGreatDoor
open Go.ChangeShapes Go.WideShapes Go.ChangeAt Go.RowKit Go.PlainAid
set_option linter.unusedVariables false
def KeptBut (g : Nat) (w w' : World) : Prop := Below g w w' ∧ ∀ b,b ≠ g → b < w.heap.size → w'.heap[b]? = w.heap[b]?
theorem KeptBut.of {g : Nat} {w w' : World} (h : Below w.heap.size w w') (hg : g < w.heap.size) : KeptBut g w w' := ⟨h.mono (Nat.le_of_lt hg),fun b _ hb => h.block b hb⟩
theorem KeptBut.refl (g : Nat) (w : World) : KeptBut g w w := ⟨Below.refl _ _,fun _ _ _ => rfl⟩
theorem KeptBut.trans {g : Nat} {w w' w'' : World} (h : KeptBut g w w') (h' : KeptBut g w' w'') : KeptBut g w w'' := ⟨h.1.trans h'.1,fun b hb hl => by rw [h'.2 b hb (Nat.lt_of_lt_of_le hl h.1.size),h.2 b hb hl]⟩
theorem KeptBut.set {g : Nat} {w w' : World} (h : KeptBut g w w') (i : Nat) (x : Value) : KeptBut g w (w'.setCell ⟨g,i,none⟩ x) := ⟨h.1.setCell (Nat.le_refl _) _,fun b hb hl => by rw [Below.heap_setCell _ _ _ _ hb]; exact h.2 b hb hl⟩
theorem KeptBut.setNew {g k : Nat} {w w' : World} (h : KeptBut g w w') (hk : w.heap.size ≤ k) (hg : g ≤ k) (i : Nat) (x : Value) : KeptBut g w (w'.setCell ⟨k,i,none⟩ x) := ⟨h.1.setCell hg _,fun b hb hl => by rw [Below.heap_setCell _ _ _ _ (show b ≠ k by omega)]; exact h.2 b hb hl⟩
theorem KeptBut.drew {g : Nat} {w w' : World} (h : KeptBut g w w') : KeptBut g w w'.drew := ⟨h.1.drew,h.2⟩
theorem KeptBut.size {g : Nat} {w w' : World} (h : KeptBut g w w') : w.heap.size ≤ w'.heap.size := h.1.size
theorem KeptBut.owns {g : Nat} {w w' : World} {base : Nat} {e : TypeId} {sz : Nat} {v : Value} {rows : List (List Value)} (h : KeptBut g w w') (ho : Owns w base e sz v rows) (hne : v.ownBlock ≠ some g) : Owns w' base e sz v rows := ho.kept fun k hk hv => h.2 k (fun e => hne (by rw [hv,e])) hk
theorem KeptBut.blk {g b : Nat} {w w' : World} {cs : Array Value} {t : TypeId} (h : KeptBut g w w') (hb : Blk w b cs t) (hne : b ≠ g) : Blk w' b cs t := (h.2 b hne hb.lt).trans hb
theorem Owns.notBlk {w : World} {base : Nat} {e t : TypeId} {sz g : Nat} {cs : Array Value} {v : Value} {rows : List (List Value)} (h : Owns w base e sz v rows) (hb : Blk w g cs t) (hne : e ≠ t) : v.ownBlock ≠ some g := fun hv => by
 rcases h.2.2 with ⟨rfl,_⟩ | ⟨g1,c1,cur1,rfl,_,k1,_⟩
 ·cases hv
 ·cases hv
  rw [hb] at k1
  cases k1
  exact hne rfl
def spC (x : Spot) : List Value := [.string x.key,.int .i64 (x.at' : Int),.int .i64 (x.size : Int),.int .i64 (x.first : Int),.int .i64 (x.last : Int)]
def spR (l : List Spot) : List (List Value) := l.map spC
theorem spR_length (l : List Spot) : (spR l).length = l.length := by simp [spR]
theorem spR_append (l m : List Spot) : spR (l ++ m) = spR l ++ spR m := by simp [spR]
theorem sp_one (x : Spot) : ∀ u ∈ spC x,u.oneCell' = true := by
 intro u hu
 simp only [spC,List.mem_cons,List.not_mem_nil,or_false] at hu
 rcases hu with rfl | rfl | rfl | rfl | rfl <;> rfl
theorem sp_look {w : World} {B : Nat} {v : Value} {l : List Spot} (h : Lies w B 5 v (spR l)) : ∃ A cap,v = .slice A l.length cap ∧ ∀ j,j < l.length → ∃ g off,A = some ⟨g,off,none⟩ ∧ g < B ∧
  w.cell? ⟨g,off + j * 5,none⟩ = some (.string (l.getD j default).key) ∧ w.cell? ⟨g,off + j * 5 + 1,none⟩ = some (.int .i64 ((l.getD j default).at' : Int)) ∧ w.cell? ⟨g,off + j * 5 + 2,none⟩ = some (.int .i64 ((l.getD j default).size : Int)) ∧
  w.cell? ⟨g,off + j * 5 + 3,none⟩ = some (.int .i64 ((l.getD j default).first : Int)) ∧ w.cell? ⟨g,off + j * 5 + 4,none⟩ = some (.int .i64 ((l.getD j default).last : Int)) := by
 obtain ⟨A,cap,e,h⟩ := h.look
 refine ⟨A,cap,by rw [e]; simp [spR],fun j hj => ?_⟩
 rw [← getD_at l j hj]
 obtain ⟨g,off,e,hg,hc⟩ := h j (by simpa [spR] using hj)
 refine ⟨g,off,e,hg,?_,?_,?_,?_,?_⟩
 ·have := hc 0 _ (by omega) (by simp [spR,spC]; rfl); simpa [Nat.add_assoc] using this
 ·have := hc 1 _ (by omega) (by simp [spR,spC]; rfl); simpa [Nat.add_assoc] using this
 ·have := hc 2 _ (by omega) (by simp [spR,spC]; rfl); simpa [Nat.add_assoc] using this
 ·have := hc 3 _ (by omega) (by simp [spR,spC]; rfl); simpa [Nat.add_assoc] using this
 ·have := hc 4 _ (by omega) (by simp [spR,spC]; rfl); simpa [Nat.add_assoc] using this
def vSp (x : Spot) : Value := .agg #[.string x.key,.int .i64 (x.at' : Int),.int .i64 (x.size : Int),.int .i64 (x.first : Int),.int .i64 (x.last : Int)]
theorem Tryz.infoSp : (Tryz.prog.info? 127).map (fun i => (i.zero,i.size,i.bytes)) = some (some (.agg #[.string ⟨#[]⟩,.int .i64 0,.int .i64 0,.int .i64 0,.int .i64 0]),5,48) := by kernel_rfl
def SpFits (x : Spot) : Prop := x.key.size ≤ 1048576 ∧ x.at' ≤ 562949953421311 ∧ x.size ≤ 562949953421311 ∧ x.first ≤ 562949953421311 ∧ x.last ≤ 562949953421311
def CurB (w : World) (g : Nat) (t : ByteArray) (p : Nat) (ty : TypeId) : Prop := Blk w g #[.string t,.int .i64 (p : Int)] ty
set_option maxHeartbeats 1000000 in
theorem placeV (w : World) (g p : Nat) (hc : w.cell? ⟨g,1,none⟩ = some (.int .i64 (p : Int))) : Calls Tryz.prog 83 #[.pointer (some ⟨g,0,none⟩)] w fun e w' => e = .returned (.int .i64 (p : Int)) ∧ w = w' := by
 go_enter Tryz.func83,Tryz.ntmps83
 go_wp2
 go_ret
 exact ⟨rfl,rfl⟩
set_option maxHeartbeats 1000000 in
theorem goToV (t : ByteArray) (p a : Nat) (w : World) (g : Nat) (ty : TypeId) (hb : CurB w g t p ty) (hs : t.size ≤ 1048576) (ha : a ≤ 9007199254740992) : Calls Tryz.prog 118 #[.pointer (some ⟨g,0,none⟩),.int .i64 (a : Int)] w fun e w' => (∃ u,e = .returned u) ∧ w' = w.setCell ⟨g,1,none⟩ (.int .i64 ((min a t.size : Nat) : Int)) := by
 have c0 : w.cell? ⟨g,0,none⟩ = some (.string t) := Blk.cell hb 0 _ rfl
 have c1 : w.cell? ⟨g,1,none⟩ = some (.int .i64 (p : Int)) := Blk.cell hb 1 _ rfl
 have f1 := Blk.free hb 1
 have q0 : (t.size : Int) ≤ 1048576 := by omega
 have q1 : (a : Int) ≤ 9007199254740992 := by omega
 have hm : ((min a t.size : Nat) : Int) = min (a : Int) (t.size : Int) := by omega
 clear hb
 rw [hm]
 go_enter Tryz.func118,Tryz.ntmps118
 go_wp2_with fail
 exact bodyPost_end (v := .tuple #[]) (by simp [results,go_sem]) rfl ⟨⟨_,rfl⟩,rfl⟩
set_option maxHeartbeats 1000000 in
theorem writeV (t part : ByteArray) (w : World) (g p : Nat) (hb : CurB w g t p 123) (hs : t.size + part.size ≤ 1000000) : Calls Tryz.prog 81 #[.pointer (some ⟨g,0,none⟩),.string part] w fun e w' => (∃ u,e = .returned u) ∧ CurB w' g (t ++ part) (t ++ part).size 123 ∧ KeptBut g w w' := by
 have HB : Hid (CurB w g t p 123) := hb
 have c0 : w.cell? ⟨g,0,none⟩ = some (.string t) := Blk.cell hb 0 _ rfl
 have f0 := Blk.free hb 0
 have q0 : (t.size : Int) + (part.size : Int) ≤ 1000000 := by omega
 have HN : Hid ((t ++ part).size = t.size + part.size) := ByteArray.size_append
 clear hb hs
 have b1 := Blk.set HB.out 0 (.string (t ++ part))
 have B1 : Hid (CurB (w.setCell ⟨g,0,none⟩ (.string (t ++ part))) g (t ++ part) p 123) := b1
 have K1 : Hid (KeptBut g w (w.setCell ⟨g,0,none⟩ (.string (t ++ part)))) := (KeptBut.refl g w).set 0 _
 clear b1
 have q1 : ((t ++ part).size : Int) ≤ 1048576 := by have := HN.out; omega
 generalize htp : t ++ part = tp at *
 generalize hW : w.setCell ⟨g,0,none⟩ (.string tp) = W1 at *
 have S0 : Hid (W1.drew.cell? ⟨g,0,none⟩ = some (.string tp)) := Blk.cell B1.out 0 _ rfl
 have c1 := goToV tp p tp.size W1.drew g 123 B1.out (by omega) (by omega)
 have HM : Hid (min tp.size tp.size = tp.size) := Nat.min_self _
 rw [HM.out] at c1
 go_enter Tryz.func81,Tryz.ntmps81
 go_wp2_with fail
 refine wp_region_until (fun w' => w'.cell? ⟨g,0,none⟩ = some (.string tp)) (fun _ => false) 10 (by rfl) (by kernel_rfl) ?_
 refine tKf 0 S0.out ?_
 refine tKf 1 S0.out ?_
 refine tKf 2 S0.out ?_
 refine tKf 3 S0.out ?_
 refine tKf 4 S0.out ?_
 refine tKf 5 S0.out ?_
 refine tKf 6 S0.out ?_
 refine tKf 7 S0.out ?_
 refine tKf 8 S0.out ?_
 refine uNe 9 (fun K hK => ?_)
 go_simp
 refine c1.mono ?_
 rintro e w2 ⟨⟨u,rfl⟩,rfl⟩
 have B2 : Hid (CurB (W1.drew.setCell ⟨g,1,none⟩ (.int .i64 (tp.size : Int))) g tp tp.size 123) := Blk.set B1.out 1 _
 have K2 : Hid (KeptBut g w (W1.drew.setCell ⟨g,1,none⟩ (.int .i64 (tp.size : Int)))) := K1.out.drew.set 1 _
 go_wp2_with fail
 refine hK.out _ _ (fun _ _ => Blk.cell B2.out 0 _ rfl) ?_
 clear hK K
 try simp only [Act.put,zQ1,zQ2,zQ3]
 refine until_done (by kernel_rfl) ?_ _
 go_wp2_with fail
 exact bodyPost_end (v := .tuple #[]) (by simp [results,go_sem]) rfl ⟨⟨_,rfl⟩,B2.out,K2.out⟩
set_option maxHeartbeats 2000000 in
theorem takeVarV (s : ByteArray) (p g : Nat) (w : World) (hb : CurB w g s p 231) (hs : s.size ≤ 1048576) (hp : p ≤ s.size) : Calls Tryz.prog 207 #[.pointer (some ⟨g,0,none⟩)] w fun e w' => e = .returned (.int .i64 (tkN s p : Int)) ∧ CurB w' g s (tkP s p) 231 ∧ KeptBut g w w' := by
 have HB : Hid (CurB w g s p 231) := hb
 have S0 : Hid (w.drew.cell? ⟨g,0,none⟩ = some (.string s) ∧ w.drew.cell? ⟨g,1,none⟩ = some (.int .i64 (p : Int))) := ⟨Blk.cell hb 0 _ rfl,Blk.cell hb 1 _ rfl⟩
 have S1 : Hid (w.drew.drew.cell? ⟨g,0,none⟩ = some (.string s) ∧ w.drew.drew.cell? ⟨g,1,none⟩ = some (.int .i64 (p : Int))) := S0.out
 have HS : Hid (s.size ≤ 1048576) := hs
 have q0 : (s.size : Int) ≤ 1048576 := by omega
 have q1 : (p : Int) ≤ (s.size : Int) := by omega
 have hk := rvK_le (rest s p)
 rw [rest_size] at hk
 have HK : Hid (tkP s p = p + rvK (rest s p) ∧ tkN s p = rvN (rest s p) ∧ tkP s p ≤ s.size) := ⟨rfl,rfl,tkP_le s p hp⟩
 have c1 : Calls Tryz.prog 166 #[.string (s.extract p s.size)] w.drew fun e w' => e = .returned (.tuple #[.int .i64 (rvN (rest s p) : Int),.int .i64 (rvK (rest s p) : Int)]) ∧ w.drew = w' := by
  refine (impl_readVar (s.extract p s.size) w.drew (by rw [ByteArray.size_extract]; omega)).mono ?_
  rintro e w' ⟨h,rfl⟩
  obtain ⟨n,k,h1,rfl⟩ := h.rd
  obtain ⟨rfl,rfl⟩ := rv_is h1
  exact ⟨rfl,rfl⟩
 clear hb hs hp
 generalize rvN (rest s p) = nn at *
 generalize rvK (rest s p) = kk at *
 have q2 : (p : Int) + (kk : Int) ≤ (s.size : Int) := by omega
 have HM : Hid (min (p + kk) s.size = p + kk) := by unfold Hid; omega
 have e8 : IntKind.i64.wrap ((p : Int) + (kk : Int)) = (p : Int) + (kk : Int) := by rw [IntKind.wrap_i64]; omega
 have cg := goToV s p (p + kk) w.drew.drew g 231 HB.out HS.out (by have := HS.out; omega)
 rw [HM.out] at cg
 rw [Int.natCast_add] at cg
 go_enter Tryz.func207,Tryz.ntmps207
 go_wp2_with fail
 refine wp_region_until (fun w' => w'.cell? ⟨g,0,none⟩ = some (.string s) ∧ w'.cell? ⟨g,1,none⟩ = some (.int .i64 (p : Int))) (fun _ => false) 16 (by rfl) (by kernel_rfl) ?_
 refine tKf 0 S0.out ?_
 refine tKf 1 S0.out ?_
 refine tKf 2 S0.out ?_
 refine tKf 3 S0.out ?_
 refine tKf 4 S0.out ?_
 refine tKf 5 S0.out ?_
 refine tKf 6 S0.out ?_
 refine tKf 7 S0.out ?_
 refine uNe 8 (fun K hK => ?_)
 go_simp
 refine (placeV _ g p S0.out.2).mono ?_
 rintro e w' ⟨rfl,rfl⟩
 go_wp2_with fail
 refine hK.out _ _ (fun _ h => h) ?_
 clear hK K
 try simp only [Act.put,zQ1,zQ2,zQ3]
 refine pUf 9 ?_
 refine uNe 10 (fun K hK => ?_)
 go_simp
 refine c1.mono ?_
 rintro e w' ⟨rfl,rfl⟩
 go_wp2_with fail
 refine hK.out _ _ (fun _ h => h) ?_
 clear hK K
 try simp only [Act.put,zQ1,zQ2,zQ3]
 refine pUf 11 ?_
 refine pUf 12 ?_
 refine pUf 13 ?_
 refine pUf 14 ?_
 refine pUf 15 ?_
 refine until_done (by kernel_rfl) ?_ _
 go_wp2_with fail
 refine wp_region_until (fun w' => w'.cell? ⟨g,0,none⟩ = some (.string s) ∧ w'.cell? ⟨g,1,none⟩ = some (.int .i64 (p : Int))) (fun i => i == 9) 10 (by rfl) (by kernel_rfl) ?_
 refine tKf 0 S0.out ?_
 refine tKf 1 S0.out ?_
 refine tKf 2 S0.out ?_
 refine tKf 3 S0.out ?_
 refine tKf 4 S0.out ?_
 refine tKf 5 S0.out ?_
 refine tKf 7 S0.out ?_
 refine uNe 6 (fun K hK => ?_)
 go_simp
 refine (placeV w.drew.drew g p S1.out.2).mono ?_
 rintro e w' ⟨rfl,rfl⟩
 go_wp2_with fail
 refine hK.out _ _ (fun _ h => h) ?_
 clear hK K
 try simp only [Act.put,zQ1,zQ2,zQ3]
 refine pUf 8 ?_
 refine uNe 9 (fun K hK => ?_)
 go_simp
 refine cg.mono ?_
 rintro e w2 ⟨⟨u,rfl⟩,rfl⟩
 have B2 : Hid (CurB (w.drew.drew.setCell ⟨g,1,none⟩ (.int .i64 ((p : Int) + (kk : Int)))) g s (tkP s p) 231) := by
  unfold Hid CurB
  rw [HK.out.1,Int.natCast_add]
  exact Blk.set HB.out 1 _
 have K2 : Hid (KeptBut g w (w.drew.drew.setCell ⟨g,1,none⟩ (.int .i64 ((p : Int) + (kk : Int))))) := (KeptBut.refl g w).drew.drew.set 1 _
 go_wp2_with fail
 refine hK.out _ _ (fun hx _ => absurd hx (by decide)) ?_
 clear hK K
 try simp only [Act.put,zQ1,zQ2,zQ3]
 refine until_done (by kernel_rfl) ?_ _
 go_wp2_with fail
 go_ret
 exact ⟨by rw [HK.out.2.1]; rfl,B2.out,K2.out⟩
set_option maxHeartbeats 2000000 in
theorem takeV (s : ByteArray) (p many g : Nat) (w : World) (hb : CurB w g s p 231) (hs : s.size ≤ 1048576) (hp : p ≤ s.size) (hm : many ≤ 562949953421311) : Calls Tryz.prog 204 #[.pointer (some ⟨g,0,none⟩),.int .i64 (many : Int)] w fun e w' => e = .returned (.string (s.extract p (tk s p many))) ∧ CurB w' g s (tk s p many) 231 ∧ KeptBut g w w' := by
 have HB : Hid (CurB w g s p 231) := hb
 have m0 : w.cell? ⟨g,1,none⟩ = some (.int .i64 (p : Int)) := Blk.cell hb 1 _ rfl
 have q0 : (s.size : Int) ≤ 1048576 := by omega
 have q1 : (p : Int) ≤ (s.size : Int) := by omega
 have q2 : (many : Int) ≤ 562949953421311 := by omega
 have HT : Hid (min (p + many) s.size = tk s p many) := rfl
 have htk : tk s p many ≤ s.size ∧ p ≤ tk s p many := by unfold tk; omega
 have cg := goToV s p (p + many) w g 231 hb hs (by omega)
 rw [HT.out,Int.natCast_add] at cg
 clear hb hs hp hm
 generalize hq : tk s p many = q at *
 have q3 : (q : Int) ≤ (s.size : Int) := by omega
 have q4 : (p : Int) ≤ (q : Int) := by omega
 have e5 : ((q : Int)).toNat = q := by omega
 have B2 : Hid (CurB (w.setCell ⟨g,1,none⟩ (.int .i64 (q : Int))).drew g s q 231) := Blk.set HB.out 1 _
 have K2 : Hid (KeptBut g w (w.setCell ⟨g,1,none⟩ (.int .i64 (q : Int))).drew) := ((KeptBut.refl g w).set 1 _).drew
 have S0 : Hid ((w.setCell ⟨g,1,none⟩ (.int .i64 (q : Int))).drew.cell? ⟨g,0,none⟩ = some (.string s) ∧ (w.setCell ⟨g,1,none⟩ (.int .i64 (q : Int))).drew.cell? ⟨g,1,none⟩ = some (.int .i64 (q : Int))) := ⟨Blk.cell B2.out 0 _ rfl,Blk.cell B2.out 1 _ rfl⟩
 clear hq HT htk
 go_enter Tryz.func204,Tryz.ntmps204
 go_wp2_with fail
 refine (placeV w g p m0).mono ?_
 rintro e w' ⟨rfl,rfl⟩
 go_wp2_with fail
 refine cg.mono ?_
 rintro e w2 ⟨⟨u,rfl⟩,rfl⟩
 go_wp2_with fail
 refine wp_region_until (fun w' => w'.cell? ⟨g,0,none⟩ = some (.string s) ∧ w'.cell? ⟨g,1,none⟩ = some (.int .i64 (q : Int))) (fun _ => false) 12 (by rfl) (by kernel_rfl) ?_
 refine tKf 0 S0.out ?_
 refine tKf 1 S0.out ?_
 refine tKf 2 S0.out ?_
 refine tKf 3 S0.out ?_
 refine tKf 4 S0.out ?_
 refine tKf 5 S0.out ?_
 refine tKf 6 S0.out ?_
 refine tKf 7 S0.out ?_
 refine tKf 8 S0.out ?_
 refine uNe 9 (fun K hK => ?_)
 go_simp
 refine (placeV _ g q S0.out.2).mono ?_
 rintro e w' ⟨rfl,rfl⟩
 go_wp2_with fail
 refine hK.out _ _ (fun _ h => h) ?_
 clear hK K
 try simp only [Act.put,zQ1,zQ2,zQ3]
 refine pUf 10 ?_
 refine pUf 11 ?_
 refine until_done (by kernel_rfl) ?_ _
 go_wp2_with fail
 go_ret
 exact ⟨rfl,B2.out,K2.out⟩
set_option maxHeartbeats 1000000 in
theorem implValuesOk (l : List Int) (v : Value) (w : World) (B : Nat) (hv : NumsV w B v l) (hn : l.length ≤ 1048576) : Calls Tryz.prog 188 #[v] w fun e w' => e = .returned (.bool (decide (VOk l))) ∧ w = w' := by
 obtain ⟨A,cap,rfl,_,_,hl⟩ := hv
 have HL : Hid (∀ j,j < l.length → ∃ g off,A = some ⟨g,off,none⟩ ∧ g < B ∧ _) := hl
 have HD : Hid (∀ b,(b = true ↔ VOk l) → decide (VOk l) = b) := by
  intro b hb
  cases b
  ·exact decide_eq_false fun h => by simp [h] at hb
  ·exact decide_eq_true (hb.1 rfl)
 have HV : Hid (VOk l ↔ 1 ≤ l.length ∧ l.length ≤ 60 ∧ ∀ j,j < l.length → -1099511627776 ≤ l.getD j 0 ∧ l.getD j 0 ≤ 1099511627776) := Iff.rfl
 have q0 : (l.length : Int) ≤ 1048576 := by omega
 clear hl hn
 generalize hN : l.length = n at *
 clear hN
 by_cases h1 : (n : Int) < 1
 ·go_enter Tryz.func188,Tryz.ntmps188
  go_wp2
  go_ret
  refine ⟨?_,rfl⟩
  rw [HD.out false]
  ·rfl
  rw [HV.out]
  constructor
  ·intro h; cases h
  ·intro h; omega
 by_cases h2 : (60 : Int) < (n : Int)
 ·go_enter Tryz.func188,Tryz.ntmps188
  go_wp2
  go_ret
  refine ⟨?_,rfl⟩
  rw [HD.out false]
  ·rfl
  rw [HV.out]
  constructor
  ·intro h; cases h
  ·intro h; omega
 go_enter Tryz.func188,Tryz.ntmps188
 go_wp2
 go_loop [15] (fun v15 => ∃ k : Nat,k ≤ n ∧ v15 = .int .i64 (k : Int) ∧ Hid (∀ j,j < k → -1099511627776 ≤ l.getD j 0 ∧ l.getD j 0 ≤ 1099511627776)) (fun i => n - (intOf i).toNat)
 case atStart => exact ⟨0,by omega,rfl,fun j hj => by omega⟩
 case round =>
  obtain ⟨k,hk,rfl,HJ⟩ := hrel
  by_cases hlt : k < n
  ·have q2 : (k : Int) < (n : Int) := by omega
   obtain ⟨g,off,rfl,_,e1⟩ := HL.out k hlt
   have HX : Hid (l.getD k 0 = l.getD k 0) := rfl
   generalize hx : l.getD k 0 = x at *
   have HXX : Hid (l.getD k 0 = x) := hx
   clear hx HX
   by_cases c1 : x < -1099511627776
   ·go_wp2
    go_ret
    refine ⟨?_,rfl⟩
    rw [HD.out false]
    ·rfl
    rw [HV.out]
    constructor
    ·intro h; cases h
    ·intro h; have := h.2.2 k hlt; rw [HXX.out] at this; omega
   by_cases c2 : 1099511627776 < x
   ·go_wp2
    go_ret
    refine ⟨?_,rfl⟩
    rw [HD.out false]
    ·rfl
    rw [HV.out]
    constructor
    ·intro h; cases h
    ·intro h; have := h.2.2 k hlt; rw [HXX.out] at this; omega
   go_wp2
   go_round
   case rel =>
    refine ⟨k + 1,by omega,by go_num,fun j hj => ?_⟩
    by_cases e : j = k
    ·subst e; rw [HXX.out]; omega
    ·exact HJ.out j (by omega)
   case measure => simp [intOf]; omega
  ·have hkk : k = n := by omega
   subst hkk
   go_wp2
   go_ret
   refine ⟨?_,rfl⟩
   rw [HD.out true]
   ·rfl
   rw [HV.out]
   exact ⟨fun _ => ⟨by omega,by omega,HJ.out⟩,fun _ => rfl⟩
set_option maxHeartbeats 1000000 in
theorem implTimesOk (l : List Int) (v : Value) (w : World) (B : Nat) (hv : NumsV w B v l) (hn : l.length ≤ 1048576) : Calls Tryz.prog 183 #[v] w fun e w' => e = .returned (.bool (decide (TOk l))) ∧ w = w' := by
 obtain ⟨A,cap,rfl,_,_,hl⟩ := hv
 have HL : Hid (∀ j,j < l.length → ∃ g off,A = some ⟨g,off,none⟩ ∧ g < B ∧ _) := hl
 have HD : Hid (∀ b,(b = true ↔ TOk l) → decide (TOk l) = b) := by
  intro b hb
  cases b
  ·exact decide_eq_false fun h => by simp [h] at hb
  ·exact decide_eq_true (hb.1 rfl)
 have HV : Hid (TOk l ↔ 1 ≤ l.length ∧ l.length ≤ 60 ∧ ∀ j,j < l.length → (0 ≤ l.getD j 0 ∧ l.getD j 0 ≤ 1099511627776) ∧ (0 < j → l.getD (j - 1) 0 < l.getD j 0)) := Iff.rfl
 have q0 : (l.length : Int) ≤ 1048576 := by omega
 clear hl hn
 generalize hN : l.length = n at *
 clear hN
 by_cases h1 : (n : Int) < 1
 ·go_enter Tryz.func183,Tryz.ntmps183
  go_wp2
  go_ret
  refine ⟨?_,rfl⟩
  rw [HD.out false]
  ·rfl
  rw [HV.out]
  constructor
  ·intro h; cases h
  ·intro h; omega
 by_cases h2 : (60 : Int) < (n : Int)
 ·go_enter Tryz.func183,Tryz.ntmps183
  go_wp2
  go_ret
  refine ⟨?_,rfl⟩
  rw [HD.out false]
  ·rfl
  rw [HV.out]
  constructor
  ·intro h; cases h
  ·intro h; omega
 go_enter Tryz.func183,Tryz.ntmps183
 go_wp2
 go_loop [3,16] (fun v3 v16 => ∃ (k : Nat) (m : Int),k ≤ n ∧ v16 = .int .i64 (k : Int) ∧ v3 = .int .i64 m ∧ 0 ≤ m ∧ m ≤ 1099511627777 ∧ Hid ((k = 0 → m = 0) ∧ (0 < k → m = l.getD (k - 1) 0 + 1)) ∧ Hid (∀ j,j < k → (0 ≤ l.getD j 0 ∧ l.getD j 0 ≤ 1099511627776) ∧ (0 < j → l.getD (j - 1) 0 < l.getD j 0))) (fun _ i => n - (intOf i).toNat)
 case atStart => exact ⟨0,0,by omega,rfl,rfl,by omega,by omega,⟨fun _ => rfl,fun h => by omega⟩,fun j hj => by omega⟩
 case round =>
  obtain ⟨k,m,hk,rfl,rfl,hm0,hm1,HM,HJ⟩ := hrel
  by_cases hlt : k < n
  ·have q2 : (k : Int) < (n : Int) := by omega
   obtain ⟨g,off,rfl,_,e1⟩ := HL.out k hlt
   generalize hx : l.getD k 0 = x at *
   have HXX : Hid (l.getD k 0 = x) := hx
   clear hx
   have HM2 : Hid (m ≤ x ↔ (0 ≤ x ∧ (0 < k → l.getD (k - 1) 0 < x))) := by
    obtain ⟨m1,m2⟩ := HM.out
    unfold Hid
    by_cases hk0 : k = 0
    ·rw [m1 hk0]
     constructor
     ·intro h; exact ⟨h,fun h => by omega⟩
     ·intro h; exact h.1
    ·have := m2 (by omega)
     constructor
     ·intro h; exact ⟨by omega,fun _ => by omega⟩
     ·intro h; have := h.2 (by omega); omega
   by_cases c1 : x < m
   ·go_wp2
    go_ret
    refine ⟨?_,rfl⟩
    rw [HD.out false]
    ·rfl
    rw [HV.out]
    constructor
    ·intro h; cases h
    ·intro h; have := h.2.2 k hlt; rw [HXX.out] at this; have := HM2.out.2 ⟨this.1.1,this.2⟩; omega
   by_cases c2 : 1099511627776 < x
   ·go_wp2
    go_ret
    refine ⟨?_,rfl⟩
    rw [HD.out false]
    ·rfl
    rw [HV.out]
    constructor
    ·intro h; cases h
    ·intro h; have := h.2.2 k hlt; rw [HXX.out] at this; omega
   go_wp2
   go_round
   case rel =>
    refine ⟨k + 1,x + 1,by omega,by go_num,by go_num,by omega,by omega,⟨fun h => by omega,fun _ => by rw [Nat.add_sub_cancel,HXX.out]⟩,fun j hj => ?_⟩
    by_cases e : j = k
    ·subst e
     rw [HXX.out]
     have := HM2.out.1 (by omega)
     exact ⟨⟨this.1,by omega⟩,this.2⟩
    ·exact HJ.out j (by omega)
   case measure => simp [intOf]; omega
  ·have hkk : k = n := by omega
   subst hkk
   go_wp2
   go_ret
   refine ⟨?_,rfl⟩
   rw [HD.out true]
   ·rfl
   rw [HV.out]
   exact ⟨fun _ => ⟨by omega,by omega,HJ.out⟩,fun _ => rfl⟩
set_option maxHeartbeats 1000000 in
theorem specValuesOk (l : List Int) (v : Value) (w : World) (B : Nat) (hv : NumsV w B v l) (hn : l.length ≤ 1048576) : Calls Tryz.prog 157 #[v] w fun e w' => e = .returned (.bool (decide (VOk l))) ∧ w = w' := by
 obtain ⟨A,cap,rfl,_,_,hl⟩ := hv
 have HL : Hid (∀ j,j < l.length → ∃ g off,A = some ⟨g,off,none⟩ ∧ g < B ∧ _) := hl
 have HD : Hid (∀ b,(b = true ↔ VOk l) → decide (VOk l) = b) := by
  intro b hb
  cases b
  ·exact decide_eq_false fun h => by simp [h] at hb
  ·exact decide_eq_true (hb.1 rfl)
 have HV : Hid (VOk l ↔ 1 ≤ l.length ∧ l.length ≤ 60 ∧ ∀ j,j < l.length → -1099511627776 ≤ l.getD j 0 ∧ l.getD j 0 ≤ 1099511627776) := Iff.rfl
 have q0 : (l.length : Int) ≤ 1048576 := by omega
 clear hl hn
 generalize hN : l.length = n at *
 clear hN
 by_cases h1 : (n : Int) < 1 ∨ (60 : Int) < (n : Int)
 ·have c := fun wx => in_no (n : Int) 1 60 wx h1
  have H1 : Hid ((n : Int) < 1 ∨ (60 : Int) < (n : Int)) := h1
  clear h1
  go_enter Tryz.func157,Tryz.ntmps157
  go_wp2_with (go_at_call 20; refine (c _).mono ?_; rintro e w' ⟨rfl,rfl⟩)
  go_ret
  refine ⟨?_,rfl⟩
  rw [HD.out false]
  ·rfl
  rw [HV.out]
  constructor
  ·intro h; cases h
  ·intro h; have := H1.out; omega
 have c := fun wx => in_yes (n : Int) 1 60 wx (by omega) (by omega)
 have q1 : (n : Int) ≤ 60 := by omega
 have q11 : (1 : Int) ≤ (n : Int) := by omega
 clear h1
 go_enter Tryz.func157,Tryz.ntmps157
 go_wp2_with (go_at_call 20; refine (c _).mono ?_; rintro e w' ⟨rfl,rfl⟩)
 go_loop [3] (fun v3 => ∃ k : Nat,k ≤ n ∧ v3 = .int .i64 (k : Int) ∧ Hid (∀ j,j < k → -1099511627776 ≤ l.getD j 0 ∧ l.getD j 0 ≤ 1099511627776)) (fun i => n - (intOf i).toNat)
 case atStart => exact ⟨0,by omega,rfl,fun j hj => by omega⟩
 case round =>
  obtain ⟨k,hk,rfl,HJ⟩ := hrel
  by_cases hlt : k < n
  ·have q2 : (k : Int) < (n : Int) := by omega
   obtain ⟨g,off,rfl,_,e1⟩ := HL.out k hlt
   generalize hx : l.getD k 0 = x at *
   have HXX : Hid (l.getD k 0 = x) := hx
   clear hx
   by_cases c1 : x < -1099511627776 ∨ 1099511627776 < x
   ·have c2 := fun wx => in_no x (-1099511627776) 1099511627776 wx c1
    have H1 : Hid (x < -1099511627776 ∨ 1099511627776 < x) := c1
    clear c1
    go_wp2_with (go_at_call 20; refine (c2 _).mono ?_; rintro e w' ⟨rfl,rfl⟩)
    go_ret
    refine ⟨?_,rfl⟩
    rw [HD.out false]
    ·rfl
    rw [HV.out]
    constructor
    ·intro h; cases h
    ·intro h; have := h.2.2 k hlt; rw [HXX.out] at this; have := H1.out; omega
   have c2 := fun wx => in_yes x (-1099511627776) 1099511627776 wx (by omega) (by omega)
   have H1 : Hid (¬ (x < -1099511627776 ∨ 1099511627776 < x)) := c1
   clear c1
   go_wp2_with (go_at_call 20; refine (c2 _).mono ?_; rintro e w' ⟨rfl,rfl⟩)
   go_round
   case rel =>
    refine ⟨k + 1,by omega,by go_num,fun j hj => ?_⟩
    by_cases e : j = k
    ·subst e; rw [HXX.out]; have := H1.out; omega
    ·exact HJ.out j (by omega)
   case measure => simp [intOf]; omega
  ·have hkk : k = n := by omega
   subst hkk
   go_wp2
   go_ret
   refine ⟨?_,rfl⟩
   rw [HD.out true]
   ·rfl
   rw [HV.out]
   exact ⟨fun _ => ⟨by omega,by omega,HJ.out⟩,fun _ => rfl⟩
set_option maxHeartbeats 1000000 in
theorem specRise (l : List Int) (v : Value) (w : World) (B : Nat) (hv : NumsV w B v l) (hn : l.length ≤ 1048576) : Calls Tryz.prog 155 #[v] w fun e w' => e = .returned (.bool (decide (TOk l))) ∧ Like w w' := by
 obtain ⟨A,cap,rfl,_,_,hl⟩ := hv
 have HL : Hid (∀ j,j < l.length → ∃ g off,A = some ⟨g,off,none⟩ ∧ g < B ∧ _) := hl
 have HD : Hid (∀ b,(b = true ↔ TOk l) → decide (TOk l) = b) := by
  intro b hb
  cases b
  ·exact decide_eq_false fun h => by simp [h] at hb
  ·exact decide_eq_true (hb.1 rfl)
 have HV : Hid (TOk l ↔ 1 ≤ l.length ∧ l.length ≤ 60 ∧ ∀ j,j < l.length → (0 ≤ l.getD j 0 ∧ l.getD j 0 ≤ 1099511627776) ∧ (0 < j → l.getD (j - 1) 0 < l.getD j 0)) := Iff.rfl
 have q0 : (l.length : Int) ≤ 1048576 := by omega
 clear hl hn
 generalize hN : l.length = n at *
 clear hN
 by_cases h1 : (n : Int) < 1 ∨ (60 : Int) < (n : Int)
 ·have c := fun wx => in_no (n : Int) 1 60 wx h1
  have H1 : Hid ((n : Int) < 1 ∨ (60 : Int) < (n : Int)) := h1
  clear h1
  go_enter Tryz.func155,Tryz.ntmps155
  go_wp2_with (go_at_call 20; refine (c _).mono ?_; rintro e w' ⟨rfl,rfl⟩)
  go_ret
  refine ⟨?_,Like.refl _⟩
  rw [HD.out false]
  ·rfl
  rw [HV.out]
  constructor
  ·intro h; cases h
  ·intro h; have := H1.out; omega
 have c := fun wx => in_yes (n : Int) 1 60 wx (by omega) (by omega)
 have q1 : (n : Int) ≤ 60 := by omega
 have q11 : (1 : Int) ≤ (n : Int) := by omega
 clear h1
 go_enter Tryz.func155,Tryz.ntmps155
 go_wp2_with (go_at_call 20; refine (c _).mono ?_; rintro e w' ⟨rfl,rfl⟩)
 go_loopw [3] (fun v3 wr => ∃ k : Nat,k ≤ n ∧ v3 = .int .i64 (k : Int) ∧ Like w wr ∧ Hid (∀ j,j < k → (0 ≤ l.getD j 0 ∧ l.getD j 0 ≤ 1099511627776) ∧ (0 < j → l.getD (j - 1) 0 < l.getD j 0))) (fun i _ => n - (intOf i).toNat)
 case atStart => exact ⟨0,by omega,rfl,Like.refl _,fun j hj => by omega⟩
 case round =>
  obtain ⟨k,hk,rfl,hLk,HJ⟩ := hrel
  by_cases hlt : k < n
  ·have q2 : (k : Int) < (n : Int) := by omega
   obtain ⟨g,off,rfl,_,e1⟩ := HL.out k hlt
   obtain ⟨g',off',eA,_,e0⟩ := HL.out (k - 1) (by omega)
   injection eA with eA
   injection eA with eA1 eA2
   subst eA1
   subst eA2
   rw [← cell?_heap hLk.1] at e1 e0
   generalize hx : l.getD k 0 = x at *
   have HXX : Hid (l.getD k 0 = x) := hx
   clear hx
   generalize hy : l.getD (k - 1) 0 = y at *
   have HYY : Hid (l.getD (k - 1) 0 = y) := hy
   clear hy
   by_cases c1 : x < 0 ∨ 1099511627776 < x
   ·have c2 := fun wx => in_no x 0 1099511627776 wx c1
    have H1 : Hid (x < 0 ∨ 1099511627776 < x) := c1
    clear c1
    go_wp2_with fail
    go_quiet ((go_at_call 20; exact Calls.quiet_of_same ((c2 _).mono fun _ _ h => ⟨h.1,h.2.symm⟩)))
    go_wp2_with fail
    go_ret
    refine ⟨?_,hLk.drewN _⟩
    rw [HD.out false]
    ·rfl
    rw [HV.out]
    constructor
    ·intro h; cases h
    ·intro h; have := h.2.2 k hlt; rw [HXX.out] at this; have := H1.out; omega
   have c2 := fun wx => in_yes x 0 1099511627776 wx (by omega) (by omega)
   have H1 : Hid (¬ (x < 0 ∨ 1099511627776 < x)) := c1
   clear c1
   by_cases hk0 : k = 0
   ·have d0 : decide ((0 : Int) < (k : Int)) = false := decide_eq_false (by omega)
    have d1 : decide (0 < k) = false := decide_eq_false (by omega)
    have HK0 : Hid (k = 0) := hk0
    clear e0 hk0
    go_wp2_with fail
    go_quiet ((go_at_call 20; exact Calls.quiet_of_same ((c2 _).mono fun _ _ h => ⟨h.1,h.2.symm⟩)))
    go_wp2_with fail
    go_roundw
    case rel =>
     refine ⟨k + 1,by omega,by go_num,hLk.drewN _,fun j hj => ?_⟩
     have hk0 := HK0.out
     obtain rfl : j = k := by omega
     rw [HXX.out]
     have := H1.out
     exact ⟨by omega,fun h => by omega⟩
    case measure => simp [intOf]; omega
   have q3 : (0 : Int) < (k : Int) := by omega
   have q4 : decide (0 < k) = true := decide_eq_true (by omega)
   have q5 : 0 < k := by omega
   have e3 : ((k : Int) - 1).toNat = k - 1 := by omega
   by_cases c3 : x ≤ y
   ·go_wp2_with fail
    go_quiet ((go_at_call 20; exact Calls.quiet_of_same ((c2 _).mono fun _ _ h => ⟨h.1,h.2.symm⟩)))
    go_wp2_with fail
    go_ret
    refine ⟨?_,hLk.drewN _⟩
    rw [HD.out false]
    ·rfl
    rw [HV.out]
    constructor
    ·intro h; cases h
    ·intro h; have := (h.2.2 k hlt).2 (by omega); rw [HXX.out,HYY.out] at this; omega
   ·have d1 : decide (x ≤ y) = false := decide_eq_false c3
    go_wp2_with fail
    go_quiet ((go_at_call 20; exact Calls.quiet_of_same ((c2 _).mono fun _ _ h => ⟨h.1,h.2.symm⟩)))
    go_wp2_with fail
    go_roundw
    case rel =>
     refine ⟨k + 1,by omega,by go_num,hLk.drewN _,fun j hj => ?_⟩
     by_cases e : j = k
     ·subst e
      rw [HXX.out,HYY.out]
      have := H1.out
      exact ⟨by omega,fun _ => by omega⟩
     ·exact HJ.out j (by omega)
    case measure => simp [intOf]; omega
  ·have hkk : k = n := by omega
   subst hkk
   go_wp2
   go_ret
   refine ⟨?_,hLk⟩
   rw [HD.out true]
   ·rfl
   rw [HV.out]
   exact ⟨fun _ => ⟨by omega,by omega,HJ.out⟩,fun _ => rfl⟩
open Go.Shelf
def bldRen : Go.Shelf.Ren := ⟨fun | 166 => 39 | 169 => 45 | 240 => 79 | 276 => 115 | f => f,fun | 20 => 20 | 37 => 68 | 70 => 73 | 72 => 75 | 75 => 77 | 80 => 81 | 127 => 131 | 164 => 165 | t => t,fun g => g⟩
theorem bld_lays166 : Go.Proofs.Lays.n166 Tryz.prog bldRen where
 mixed := by kernel_rfl
 f166 := Tryz.func39.trans (congrArg some (by kernel_rfl))
 f240 := Tryz.func79.trans (congrArg some (by kernel_rfl))
 f276 := Tryz.func115.trans (congrArg some (by kernel_rfl))
 t0 := Tryz.underlying0
 a0 := Tryz.isAgg0
 z0 := Tryz.sizeOf0
 v0 := Tryz.zeroValue0
 t3 := Tryz.underlying3
 a3 := Tryz.isAgg3
 z3 := Tryz.sizeOf3
 v3 := Tryz.zeroValue3
 t4 := Tryz.underlying4
 a4 := Tryz.isAgg4
 z4 := Tryz.sizeOf4
 v4 := Tryz.zeroValue4
 t9 := Tryz.underlying9
 a9 := Tryz.isAgg9
 z9 := Tryz.sizeOf9
 v9 := Tryz.zeroValue9
 t20 := Tryz.underlying20
 a20 := Tryz.isAgg20
 z20 := Tryz.sizeOf20
 v20 := Tryz.zeroValue20
 t37 := Tryz.underlying68
 a37 := Tryz.isAgg68
 z37 := Tryz.sizeOf68
 v37 := Tryz.zeroValue68
 t70 := Tryz.underlying73
 a70 := Tryz.isAgg73
 z70 := Tryz.sizeOf73
 v70 := Tryz.zeroValue73
 t72 := Tryz.underlying75
 a72 := Tryz.isAgg75
 z72 := Tryz.sizeOf75
 v72 := Tryz.zeroValue75
 t75 := Tryz.underlying77
 a75 := Tryz.isAgg77
 z75 := Tryz.sizeOf77
 v75 := Tryz.zeroValue77
 t164 := Tryz.underlying165
 a164 := Tryz.isAgg165
 z164 := Tryz.sizeOf165
 v164 := Tryz.zeroValue165
theorem bld_lays169 : Go.Proofs.Lays.n169 Tryz.prog bldRen where
 mixed := by kernel_rfl
 f169 := Tryz.func45.trans (congrArg some (by kernel_rfl))
 t0 := Tryz.underlying0
 a0 := Tryz.isAgg0
 z0 := Tryz.sizeOf0
 v0 := Tryz.zeroValue0
 t3 := Tryz.underlying3
 a3 := Tryz.isAgg3
 z3 := Tryz.sizeOf3
 v3 := Tryz.zeroValue3
 t9 := Tryz.underlying9
 a9 := Tryz.isAgg9
 z9 := Tryz.sizeOf9
 v9 := Tryz.zeroValue9
 t37 := Tryz.underlying68
 a37 := Tryz.isAgg68
 z37 := Tryz.sizeOf68
 v37 := Tryz.zeroValue68
 t70 := Tryz.underlying73
 a70 := Tryz.isAgg73
 z70 := Tryz.sizeOf73
 v70 := Tryz.zeroValue73
 t72 := Tryz.underlying75
 a72 := Tryz.isAgg75
 z72 := Tryz.sizeOf75
 v72 := Tryz.zeroValue75
 t127 := Tryz.underlying131
 a127 := Tryz.isAgg131
 z127 := Tryz.sizeOf131
 v127 := Tryz.zeroValue131
theorem bld_extra : Go.Proofs.Builder.Extra Tryz.prog bldRen where
 sizeBuilder := by kernel_rfl
 liesBuilder := by kernel_rfl
 t5 := Tryz.underlying5
 a5 := Tryz.isAgg5
 z5 := Tryz.sizeOf5
 v5 := Tryz.zeroValue5
 infoByte := by kernel_rfl
 cellsByte := by kernel_rfl
 sizeByte := by kernel_rfl
 neB5 := by decide
theorem bldWrite (B b : Nat) (bs : List Value) (s : ByteArray) (w : World) (h : Lib.IsBuilderF 75 5 B b bs w) (hlen : bs.length + s.size ≤ 140737488355328) (hBw : B ≤ w.heap.size) :
  Calls Tryz.prog 39 #[.pointer (some ⟨b,0,none⟩),.string s] w fun e w' => e = .returned (.tuple #[.int .i64 s.size,.nilIface]) ∧ (Lib.BuilderAtF 75 5 B b (.pointer (some ⟨b,0,none⟩)) (bs ++ Lib.strCells s) w' ∧ Below B w w' ∧ Lib.OthersKept 5 (some b) w w') := Any.Builder_WriteString_k bld_lays166 bld_extra B b bs s w h hlen hBw
theorem bldString (B b : Nat) (l : List UInt8) (w : World) (h : Lib.IsBuilderF 75 5 B b (Lib.byteCells l) w) (hBw : B ≤ w.heap.size) :
  Calls Tryz.prog 45 #[.pointer (some ⟨b,0,none⟩)] w fun e w' => e = .returned (.string ⟨l.toArray⟩) ∧ (Lib.IsBuilderF 75 5 B b (Lib.byteCells l) w' ∧ Below B w w' ∧ Lib.OthersKept 5 (some b) w w') := Any.Builder_String_any_k bld_lays169 bld_extra B b l w h hBw
set_option maxHeartbeats 1000000 in
theorem differencesV (l : List Int) (v : Value) (w : World) (B : Nat) (F : Nat) (caps : Array Value) (Inv : Nat → World → Prop)
  (hF : ∀ args w,(callFunc F args).run Tryz.prog w = .ok (.enter F args) w) (hn : l.length ≤ 1048576) (hd : ∀ k,k < l.length → -4611686018427387904 ≤ dif l k ∧ dif l k ≤ 4611686018427387904)
  (hv : ∀ k wx,Inv k wx → NumsV wx B v l) (h0 : Inv 0 w)
  (hC : ∀ k,k < l.length → ∀ wx,Inv k wx → Calls Tryz.prog F (#[.int .i64 (k : Int),.int .i64 (dif l k)] ++ caps) wx fun e w' => (∃ u,e = .returned u) ∧ Inv (k + 1) w') :
  Calls Tryz.prog 184 #[v,.func (.func F) #[] caps] w fun e w' => (∃ u,e = .returned u) ∧ Inv l.length w' := by
 have HV : Hid (∀ k wx,Inv k wx → NumsV wx B v l) := hv
 have HC : Hid (∀ k,k < l.length → ∀ wx,Inv k wx → Calls Tryz.prog F (#[.int .i64 (k : Int),.int .i64 (dif l k)] ++ caps) wx fun e w' => (∃ u,e = .returned u) ∧ Inv (k + 1) w') := hC
 have HD : Hid (∀ k,k < l.length → -4611686018427387904 ≤ dif l k ∧ dif l k ≤ 4611686018427387904) := hd
 obtain ⟨A,cap,rfl,_,_,hl⟩ := hv 0 w h0
 have q0 : (l.length : Int) ≤ 1048576 := by omega
 clear hl hn hd hv hC
 generalize hN : l.length = n at *
 have HN : Hid (l.length = n) := hN
 clear hN
 go_enter Tryz.func184,Tryz.ntmps184
 go_wp2
 go_loopw [4,9] (fun v4 v9 wr => ∃ k : Nat,k ≤ n ∧ v9 = .int .i64 (k : Int) ∧ v4 = .int .i64 (prv l k) ∧ Inv k wr) (fun _ i _ => n - (intOf i).toNat)
 case atStart => exact ⟨0,by omega,rfl,rfl,h0⟩
 case round =>
  obtain ⟨k,hk,rfl,rfl,hI⟩ := hrel
  by_cases hlt : k < n
  ·have q2 : (k : Int) < (n : Int) := by omega
   obtain ⟨A',cap',e',_,_,hl⟩ := HV.out k wr hI
   injection e' with ea eb ec
   subst ea
   subst ec
   obtain ⟨g,off,rfl,_,e1⟩ := hl k (by rw [HN.out]; exact hlt)
   have hdk := HD.out k hlt
   have cC := HC.out k hlt wr hI
   have HP : Hid (prv l (k + 1) = l.getD k 0) := prv_succ l k
   have ed : dif l k = l.getD k 0 - prv l k := rfl
   rw [ed] at hdk cC
   generalize l.getD k 0 = x at *
   generalize prv l k = y at *
   have hw : wrap64 (x - y) = x - y := by unfold wrap64; omega
   clear hl eb ed
   go_wp2_with fail
   refine cC.mono ?_
   rintro e w1 ⟨⟨u,rfl⟩,hI1⟩
   go_wp2_with fail
   go_roundw
   case rel => exact ⟨k + 1,by omega,by go_num,by rw [HP.out],hI1⟩
   case measure => simp [intOf]; omega
  ·obtain rfl : k = n := by omega
   go_wp2_with fail
   exact bodyPost_end (v := .tuple #[]) (by simp [results,go_sem]) rfl ⟨⟨_,rfl⟩,hI⟩
theorem strCells_append (a b : ByteArray) : Lib.strCells (a ++ b) = Lib.strCells a ++ Lib.strCells b := by simp [Lib.strCells,ByteArray.data_append]
theorem strCells_txt (l m : List UInt8) : Lib.strCells (txt (l ++ m)) = Lib.strCells (txt l) ++ Lib.strCells (txt m) := by rw [← txt_cat,strCells_append]
theorem bld_on {w w' : World} {B b : Nat} {bs : List Value} (h : Lib.IsBuilderF 75 5 B b bs w) (hb : Below w.heap.size w w') : Lib.IsBuilderF 75 5 B b bs w' := by
 have key : ∀ p,Lib.BuilderAtF 75 5 B b p bs w → Lib.BuilderAtF 75 5 B b p bs w' := by
  rintro p ⟨hB,v,hh,hown,hne⟩
  refine ⟨hB,v,by rw [hb.block b (lt_of_block hh)]; exact hh,⟨hown.1,?_⟩,hne⟩
  rcases hown.2 with h | ⟨g,cap,cur,fz,rfl,hbg,hg,rest⟩
  ·exact .inl h
  ·refine .inr ⟨g,cap,cur,fz,rfl,hbg,?_,rest⟩
   rw [hb.block g (Array.getElem?_eq_some_iff.1 hg).1]
   exact hg
 exact h.imp (key _) (key _)
theorem bld_new {w : World} {b : Nat} (h : w.heap[b]? = some (.cells #[.pointer none,.slice none 0 0] 75 (0,0))) : Lib.IsBuilderF 75 5 b b (Lib.strCells ByteArray.empty) w :=
 .inl ⟨Nat.le_refl _,.slice none 0 0,h,⟨rfl,.inl ⟨rfl,rfl⟩⟩,fun e => by cases e⟩
def Bld (gb : Nat) (l : List UInt8) (w : World) : Prop := Lib.IsBuilderF 75 5 gb gb (Lib.strCells (txt l)) w
theorem Bld.on {gb : Nat} {l : List UInt8} {w w' : World} (h : Bld gb l w) (hb : Below w.heap.size w w') : Bld gb l w' := bld_on h hb
theorem bldWriteT (gb : Nat) (l m : List UInt8) (w : World) (h : Bld gb l w) (hlen : l.length + m.length ≤ 1048576) (hBw : gb ≤ w.heap.size) :
  Calls Tryz.prog 39 #[.pointer (some ⟨gb,0,none⟩),.string (txt m)] w fun e w' => e = .returned (.tuple #[.int .i64 (m.length : Int),.nilIface]) ∧ Bld gb (l ++ m) w' ∧ Below gb w w' ∧ Lib.OthersKept 5 (some gb) w w' := by
 refine (bldWrite gb gb _ (txt m) w h (by rw [Lib.strCells_length]; have h1 := txt_size l; have h2 := txt_size m; omega) hBw).mono ?_
 rintro e w' ⟨rfl,h1,h2,h3⟩
 refine ⟨by rw [txt_size],?_,h2,h3⟩
 unfold Bld
 rw [strCells_txt]
 exact .inr h1
theorem bldStringT (gb : Nat) (l : List UInt8) (w : World) (h : Bld gb l w) (hBw : gb ≤ w.heap.size) :
  Calls Tryz.prog 45 #[.pointer (some ⟨gb,0,none⟩)] w fun e w' => e = .returned (.string (txt l)) ∧ Below gb w w' := by
 have h' : Lib.IsBuilderF 75 5 gb gb (Lib.byteCells l) w := by
  have : Lib.strCells (txt l) = Lib.byteCells l := by simp [Lib.strCells,Lib.byteCells,txt]
  rw [← this]
  exact h
 refine (bldString gb gb l w h' hBw).mono ?_
 rintro e w' ⟨rfl,_,h2,_⟩
 exact ⟨rfl,h2⟩
set_option maxHeartbeats 1000000 in
theorem specShowValues (l : List Int) (v : Value) (w : World) (B : Nat) (hv : NumsV w B v l) (hn : l.length ≤ 1048576) (hB : B ≤ w.heap.size) : Calls Tryz.prog 114 #[v] w fun e w' => e = .returned (.string (showV l)) ∧ Below w.heap.size w w' := by
 have c := specValuesOk l v w B hv hn
 have HV := hQz hv
 have HB : Hid (B ≤ w.heap.size) := hB
 obtain ⟨A,cap,rfl,_,_,_⟩ := hv
 by_cases ho : VOk l
 ·have HE : Hid (showV l = txt (cat (vPiece l) l.length)) := by unfold Hid showV; rw [if_pos ho]
  have HO : Hid (VOk l) := ho
  rw [decide_eq_true ho] at c
  have q0 : (l.length : Int) ≤ 60 := by have := ho.2.1; omega
  clear ho hn hB
  generalize hN : l.length = n at *
  have HN : Hid (l.length = n) := hN
  clear hN
  go_enter Tryz.func114,Tryz.ntmps114
  go_wp2_with fail
  refine c.mono ?_
  rintro e w0 ⟨rfl,rfl⟩
  go_wp2_with fail
  go_loopw [3,4,5] (fun v3 v4 v5 wr => ∃ k : Nat,k ≤ n ∧ v5 = .int .i64 (k : Int) ∧ v4 = .int .i64 (prv l k) ∧ v3 = .string (txt (cat (vPiece l) k)) ∧ Below w.heap.size w wr) (fun _ _ i _ => n - (intOf i).toNat)
  case atStart => exact ⟨0,by omega,rfl,rfl,rfl,Below.refl _ _⟩
  case round =>
   obtain ⟨k,hk,rfl,rfl,rfl,hb⟩ := hrel
   have HB1 := hQz hb
   by_cases hlt : k < n
   ·have q2 : (k : Int) < (n : Int) := by omega
    obtain ⟨A',cap',e',_,_,hl⟩ := HV.out.on (hb.mono HB.out)
    injection e' with ea eb ec
    subst ea
    subst ec
    obtain ⟨g,off,rfl,hgB,e1⟩ := hl k (by rw [HN.out]; exact hlt)
    have hdk := HO.out.dif k (by rw [HN.out]; exact hlt)
    have cz := fun wx => spec_zig (dif l k) wx (by omega) (by omega)
    have hz0 := zig_pos (dif l k) (by omega) (by omega)
    have hz1 := (zig_range (dif l k)).2
    have cv := fun wx => spec_var (zig (dif l k)).toNat wx (by omega)
    rw [Int.toNat_of_nonneg hz0] at cv
    have HP : Hid (prv l (k + 1) = l.getD k 0) := prv_succ l k
    have ed : dif l k = l.getD k 0 - prv l k := rfl
    have ecat : cat (vPiece l) (k + 1) = cat (vPiece l) k ++ vF 6 (zig (dif l k)).toNat := cat_succ _ _
    have hl1 := cat_length (vPiece l) (vPiece_length l) k
    have hl2 := vF_length 6 (zig (dif l k)).toNat
    have HCT : Hid (txt (cat (vPiece l) (k + 1)) = txt (cat (vPiece l) k) ++ txt (vF 6 (zig (dif l k)).toNat)) := by unfold Hid; rw [ecat,txt_cat]
    have hs1 := txt_size (cat (vPiece l) k)
    have hs2 := txt_size (vF 6 (zig (dif l k)).toNat)
    generalize txt (cat (vPiece l) k) = sa at *
    generalize txt (vF 6 (zig (dif l k)).toNat) = sb at *
    have hsum : sa.size + sb.size ≤ 9223372036854775807 := by omega
    generalize zig (dif l k) = z at *
    clear ecat hl1 hl2 hs1 hs2
    rw [ed] at hdk cz
    have he1 : ∀ wx,Below wr.heap.size wr wx → wx.cell? ⟨g,off + k,none⟩ = some (.int .i64 (l.getD k 0)) := fun wx hx => by rw [hx.cell (p := ⟨_,_,none⟩) (by have := hb.size; have := HB.out; show g < _; omega)]; exact e1
    generalize l.getD k 0 = x at *
    generalize prv l k = y at *
    have hw : wrap64 (x - y) = x - y := by unfold wrap64; omega
    clear hl eb ed hb
    go_wp2_with fail
    refine (cz _).mono ?_
    rintro e w1 ⟨rfl,rfl⟩
    go_wp2_with fail
    refine (cv _).mono ?_
    rintro e w2 ⟨rfl,hb2⟩
    have e2 := he1 _ hb2
    have HB2 := hQz (HB1.out.trans (hb2.mono HB1.out.size))
    clear he1 hb2
    go_wp2_with fail
    go_roundw
    case rel => exact ⟨k + 1,by omega,by go_num,by rw [HP.out],by rw [HCT.out],HB2.out⟩
    case measure => simp [intOf]; omega
   ·obtain rfl : k = n := by omega
    clear hb
    go_wp2_with fail
    go_ret
    exact ⟨by rw [HE.out]; rfl,HB1.out⟩
 ·have HE : Hid (showV l = txt []) := by unfold Hid showV; rw [if_neg ho]
  rw [decide_eq_false ho] at c
  clear ho
  go_enter Tryz.func114,Tryz.ntmps114
  go_wp2_with fail
  refine c.mono ?_
  rintro e w0 ⟨rfl,rfl⟩
  go_wp2_with fail
  go_ret
  exact ⟨by rw [HE.out]; rfl,Below.refl _ _⟩
set_option maxHeartbeats 1000000 in
theorem showVals1 (k : Nat) (d : Int) (gb : Nat) (l : List UInt8) (w : World) (h1 : -140737488355328 ≤ d) (h2 : d ≤ 140737488355328) (hb : Bld gb l w) (hl : l.length ≤ 1000) (hg : gb ≤ w.heap.size) :
  Calls Tryz.prog 189 #[.int .i64 (k : Int),.int .i64 d,.pointer (some ⟨gb,0,none⟩)] w fun e w' => (∃ u,e = .returned u) ∧ Bld gb (l ++ vF 6 (zig d).toNat) w' ∧ Below gb w w' := by
 have cz := fun wx => impl_zig d wx (by omega) (by omega)
 have hz0 := zig_pos d h1 h2
 have hz1 := (zig_range d).2
 have cv := fun wx => impl_var (zig d).toNat wx (by omega)
 rw [Int.toNat_of_nonneg hz0] at cv
 have HBD : Hid (Bld gb l w) := hb
 have HG : Hid (gb ≤ w.heap.size) := hg
 have hvl := vF_length 6 (zig d).toNat
 have HL : Hid (l.length + (vF 6 (zig d).toNat).length ≤ 1048576) := by unfold Hid; omega
 clear hb hg hl hvl
 generalize hvv : vF 6 (zig d).toNat = vv at *
 generalize zig d = z at *
 go_enter Tryz.func189,Tryz.ntmps189
 go_wp2_with fail
 refine (cz _).mono ?_
 rintro e w1 ⟨rfl,rfl⟩
 go_wp2_with fail
 refine (cv _).mono ?_
 rintro e w2 ⟨rfl,hb2⟩
 have HB2 := hQz (hb2.mono HG.out)
 have Z2 := hQz (Nat.le_trans HG.out hb2.size)
 have L2 := hQz (HBD.out.on hb2)
 clear hb2
 go_wp2_with fail
 refine (bldWriteT gb l vv w2 L2.out HL.out Z2.out).mono ?_
 rintro e w3 ⟨rfl,hB3,hb3,_⟩
 have HB3 := hQz (HB2.out.trans hb3)
 clear hb3
 go_wp2_with fail
 exact bodyPost_end (v := .tuple #[]) (by simp [results,go_sem]) rfl ⟨⟨_,rfl⟩,hB3,HB3.out⟩
set_option maxHeartbeats 1000000 in
theorem implShowValues (l : List Int) (v : Value) (w : World) (B : Nat) (hv : NumsV w B v l) (hn : l.length ≤ 1048576) (hB : B ≤ w.heap.size) : Calls Tryz.prog 161 #[v] w fun e w' => e = .returned (.string (showV l)) ∧ Below w.heap.size w w' := by
 have c := implValuesOk l v w B hv hn
 have HV := hQz hv
 have HB : Hid (B ≤ w.heap.size) := hB
 obtain ⟨A,cap,rfl,_,_,_⟩ := hv
 by_cases ho : VOk l
 ·have HE : Hid (showV l = txt (cat (vPiece l) l.length)) := by unfold Hid showV; rw [if_pos ho]
  have HO : Hid (VOk l) := ho
  have HN : Hid (l.length ≤ 60) := ho.2.1
  rw [decide_eq_true ho] at c
  have k0 : (w.alloc (.cells #[.pointer none,.slice none 0 0] 75)).heap[w.heap.size]? = some (.cells #[.pointer none,.slice none 0 0] 75 (0,0)) := heap_alloc_new w _
  have b0 : Below w.heap.size w (w.alloc (.cells #[.pointer none,.slice none 0 0] 75)) := (Below.refl _ _).alloc (Nat.le_refl _) _
  clear ho hB
  go_enter Tryz.func161,Tryz.ntmps161
  go_wp2_with fail
  refine c.mono ?_
  rintro e w0 ⟨rfl,rfl⟩
  go_wp2_with fail
  generalize w.alloc (.cells #[.pointer none,.slice none 0 0] 75) = W at *
  have cD := differencesV l (.slice A l.length cap) W B 189 #[.pointer (some ⟨w.heap.size,0,none⟩)] (fun k wx => Below w.heap.size w wx ∧ Bld w.heap.size (cat (vPiece l) k) wx) (fun _ _ => by kernel_rfl) hn (fun k hk => by have := HO.out.dif k hk; omega) (fun k wx hx => HV.out.on (hx.1.mono HB.out)) ⟨b0,bld_new k0⟩ (fun k hk wx hx => by
   have hd := HO.out.dif k hk
   have hc := cat_length (vPiece l) (vPiece_length l) k
   have hN := HN.out
   refine (showVals1 k (dif l k) w.heap.size (cat (vPiece l) k) wx (by omega) (by omega) hx.2 (by omega) hx.1.size).mono ?_
   rintro e w' ⟨hu,h1,h2⟩
   exact ⟨hu,hx.1.trans h2,by rw [cat_succ]; exact h1⟩)
  refine cD.mono ?_
  rintro e w2 ⟨⟨u,rfl⟩,hb2,hB2⟩
  have cS := bldStringT w.heap.size _ w2 hB2 hb2.size
  have HB2 := hQz hb2
  clear hb2 hB2 cD b0 k0
  go_wp2_with fail
  refine cS.mono ?_
  rintro e w3 ⟨rfl,hb3⟩
  have HB3 := hQz (HB2.out.trans hb3)
  clear hb3 cS
  go_wp2_with fail
  go_ret
  exact ⟨by rw [HE.out]; rfl,HB3.out⟩
 ·have HE : Hid (showV l = txt []) := by unfold Hid showV; rw [if_neg ho]
  rw [decide_eq_false ho] at c
  clear ho
  go_enter Tryz.func161,Tryz.ntmps161
  go_wp2_with fail
  refine c.mono ?_
  rintro e w0 ⟨rfl,rfl⟩
  go_wp2_with fail
  go_ret
  exact ⟨by rw [HE.out]; rfl,Below.refl _ _⟩
set_option maxHeartbeats 2000000 in
theorem specShowTimes (l : List Int) (v : Value) (w : World) (B : Nat) (hv : NumsV w B v l) (hn : l.length ≤ 1048576) (hB : B ≤ w.heap.size) : Calls Tryz.prog 113 #[v] w fun e w' => e = .returned (.string (showT l)) ∧ Below w.heap.size w w' := by
 have c := specRise l v w B hv hn
 have HV := hQz hv
 have HB : Hid (B ≤ w.heap.size) := hB
 by_cases ho : TOk l
 ·obtain ⟨g,off,cap,rfl,_,_,hg,hc0⟩ := hv.full ho.1
  have HC : Hid (∀ wx,Below w.heap.size w wx → ∀ j,j < l.length → wx.cell? ⟨g,off + j,none⟩ = some (.int .i64 (l.getD j 0))) := fun wx hx => hc0 wx (hx.mono hB)
  have HE : Hid (showT l = txt (cat (tPiece l) l.length)) := by unfold Hid showT; rw [if_pos ho]
  have HO : Hid (TOk l) := ho
  rw [decide_eq_true ho] at c
  have q0 : (l.length : Int) ≤ 60 := by have := ho.2.1; omega
  have q1 : (1 : Int) ≤ (l.length : Int) := by have := ho.1; omega
  have hq1 : 1 ≤ l.length := by have := ho.1; omega
  clear ho hn hB hc0 hv
  generalize hN : l.length = n at *
  have HN : Hid (l.length = n) := hN
  clear hN
  go_enter Tryz.func113,Tryz.ntmps113
  go_wp2_with fail
  refine c.mono ?_
  rintro e w0 ⟨rfl,hL0⟩
  have B0 : Hid (Below w.heap.size w w0) := hL0.below
  have e1 := HC.out w0 B0.out 0 hq1
  have e00 : off + 0 = off := rfl
  rw [e00] at e1
  have hT0 := HO.out.turn 0 (by rw [HN.out]; exact hq1)
  have ht0 : turn l 0 = l.getD 0 0 := by unfold turn dif prv; simp
  have cv0 := fun wx => spec_var (turn l 0).toNat wx (by omega)
  rw [Int.toNat_of_nonneg hT0.1] at cv0
  have HC1 : Hid (txt (cat (tPiece l) 1) = txt (vF 6 (turn l 0).toNat)) := by unfold Hid; rw [cat_succ,cat_zero]; rfl
  generalize txt (vF 6 (turn l 0).toNat) = s1 at *
  rw [ht0] at cv0
  clear e00 hT0 ht0 hL0
  generalize l.getD 0 0 = x0 at *
  go_wp2_with fail
  refine (cv0 _).mono ?_
  rintro e w1 ⟨rfl,hb1⟩
  have B1 := hQz (B0.out.trans (hb1.mono B0.out.size))
  clear hb1 cv0 e1
  go_wp2_with fail
  go_loopw [3,4] (fun v3 v4 wr => ∃ k : Nat,1 ≤ k ∧ k ≤ n ∧ v4 = .int .i64 (k : Int) ∧ v3 = .string (txt (cat (tPiece l) k)) ∧ Below w.heap.size w wr) (fun _ i _ => n - (intOf i).toNat)
  case atStart => exact ⟨1,by omega,by omega,rfl,by rw [HC1.out],B1.out⟩
  case round =>
   obtain ⟨k,hk1,hk,rfl,rfl,hb⟩ := hrel
   have HB1 := hQz hb
   by_cases hlt : k < n
   ·have q2 : (k : Int) < (n : Int) := by omega
    have q3 : (1 : Int) ≤ (k : Int) := by omega
    have e1 := HC.out wr hb k hlt
    have e0 := HC.out wr hb (k - 1) (by omega)
    have hdk := HO.out.dif k (by rw [HN.out]; exact hlt)
    have hpk := HO.out.2.2 k (by rw [HN.out]; exact hlt)
    have hpj := HO.out.2.2 (k - 1) (by rw [HN.out]; omega)
    have ed : dif l k = l.getD k 0 - l.getD (k - 1) 0 := by unfold dif prv; rw [if_neg (by omega)]
    have hT := HO.out.turn k (by rw [HN.out]; exact hlt)
    have cv := fun wx => spec_var (turn l k).toNat wx (by omega)
    rw [Int.toNat_of_nonneg hT.1] at cv
    have ecat : cat (tPiece l) (k + 1) = cat (tPiece l) k ++ vF 6 (turn l k).toNat := cat_succ _ _
    have hl1 := cat_length (tPiece l) (tPiece_length l) k
    have hl2 := vF_length 6 (turn l k).toNat
    have HCT : Hid (txt (cat (tPiece l) (k + 1)) = txt (cat (tPiece l) k) ++ txt (vF 6 (turn l k).toNat)) := by unfold Hid; rw [ecat,txt_cat]
    have hs1 := txt_size (cat (tPiece l) k)
    have hs2 := txt_size (vF 6 (turn l k).toNat)
    generalize txt (cat (tPiece l) k) = sa at *
    generalize txt (vF 6 (turn l k).toNat) = sb at *
    have hsum : sa.size + sb.size ≤ 9223372036854775807 := by omega
    have e3 : ((k : Int) - 1).toNat = k - 1 := by omega
    have ew : wrap64 (l.getD k 0 - l.getD (k - 1) 0) = l.getD k 0 - l.getD (k - 1) 0 := by unfold wrap64; omega
    clear ecat hl1 hl2 hs1 hs2
    by_cases hk1 : k = 1
    ·have et : turn l k = dif l k := by unfold turn; rw [if_pos (by omega)]
     rw [et,ed] at cv
     clear et hT ed hdk hpk hpj
     subst hk1
     have e0' : wr.cell? ⟨g,off,none⟩ = some (.int .i64 (l.getD (1 - 1) 0)) := e0
     clear e0 e3
     generalize l.getD 1 0 = x at *
     generalize l.getD (1 - 1) 0 = y at *
     go_wp2_with fail
     go_quiet (fail)
     go_wp2_with fail
     refine (cv _).mono ?_
     rintro e w2 ⟨rfl,hb2⟩
     have HB2 : Hid (Below w.heap.size w w2) := (HB1.out.trans (((Like.refl wr).drewN _).below.mono HB1.out.size)).trans (hb2.mono HB1.out.size)
     clear hb2
     go_wp2_with fail
     go_roundw
     case rel => exact ⟨2,by omega,by omega,by go_num,by rw [HCT.out],HB2.out⟩
     case measure => simp [intOf]; omega
    ·have et : turn l k = zig (dif l k - dif l (k - 1)) := by unfold turn; rw [if_neg (by omega)]
     have ed2 : dif l (k - 1) = l.getD (k - 1) 0 - l.getD (k - 2) 0 := by unfold dif prv; rw [if_neg (by omega),Nat.sub_sub]
     have hdj := HO.out.dif (k - 1) (by rw [HN.out]; omega)
     have cz := fun wx => spec_zig (dif l k - dif l (k - 1)) wx (by omega) (by omega)
     rw [← et] at cz
     rw [ed,ed2] at cz
     have f0 := HC.out wr hb (k - 2) (by omega)
     have hpi := HO.out.2.2 (k - 2) (by rw [HN.out]; omega)
     have e4 : ((k : Int) - 2).toNat = k - 2 := by omega
     have q5 : ¬ (k : Int) = 1 := by omega
     have q6 : (2 : Int) ≤ (k : Int) := by omega
     have q7 : decide ((k : Int) = 1) = false := decide_eq_false q5
     have q8 : ((k : Int) == 1) = false := by simp; omega
     have ew2 : wrap64 (l.getD (k - 1) 0 - l.getD (k - 2) 0) = l.getD (k - 1) 0 - l.getD (k - 2) 0 := by unfold wrap64; omega
     have ew3 : wrap64 (l.getD k 0 - l.getD (k - 1) 0 - (l.getD (k - 1) 0 - l.getD (k - 2) 0)) = l.getD k 0 - l.getD (k - 1) 0 - (l.getD (k - 1) 0 - l.getD (k - 2) 0) := by unfold wrap64; omega
     have HCY0 : ∀ wx,Below w.heap.size w wx → wx.cell? ⟨g,off + (k - 1),none⟩ = some (.int .i64 (l.getD (k - 1) 0)) ∧ wx.cell? ⟨g,off + (k - 2),none⟩ = some (.int .i64 (l.getD (k - 2) 0)) := fun wx hx => ⟨HC.out wx hx (k - 1) (by omega),HC.out wx hx (k - 2) (by omega)⟩
     generalize turn l k = tt at *
     clear ed ed2 et hdk hdj
     generalize l.getD k 0 = x at *
     generalize l.getD (k - 1) 0 = y at *
     generalize l.getD (k - 2) 0 = z at *
     go_wp2_with fail
     go_quiet (fail)
     go_wp2_with fail
     have g1 : IntKind.i64.wrap ((k : Int) - 1) = (k : Int) - 1 := by rw [IntKind.wrap_i64]; omega
     have g2 : IntKind.i64.wrap ((k : Int) - 2) = (k : Int) - 2 := by rw [IntKind.wrap_i64]; omega
     have g3 : (0 : Int) ≤ (k : Int) - 1 := by omega
     have g4 : (k : Int) - 1 < (n : Int) := by omega
     have g5 : (0 : Int) ≤ (k : Int) - 2 := by omega
     have g6 : (k : Int) - 2 < (n : Int) := by omega
     have g7 : IntKind.i64.wrap (y - z) = y - z := by rw [IntKind.wrap_i64]; omega
     have g8 : IntKind.i64.wrap (x - y - (y - z)) = x - y - (y - z) := by rw [IntKind.wrap_i64]; omega
     have g9 : sa.size + sb.size ≤ maxLen := by unfold maxLen; omega
     have g10 : ¬ maxLen < sa.size + sb.size := by unfold maxLen; omega
     have S0 : Hid (wr.cell? ⟨g,off + (k - 1),none⟩ = some (.int .i64 y) ∧ wr.cell? ⟨g,off + (k - 2),none⟩ = some (.int .i64 z)) := ⟨e0,f0⟩
     have HCY : Hid (∀ wx,Below w.heap.size w wx → wx.cell? ⟨g,off + (k - 1),none⟩ = some (.int .i64 y) ∧ wx.cell? ⟨g,off + (k - 2),none⟩ = some (.int .i64 z)) := HCY0
     refine wp_region_until (fun w' => w'.cell? ⟨g,off + (k - 1),none⟩ = some (.int .i64 y) ∧ w'.cell? ⟨g,off + (k - 2),none⟩ = some (.int .i64 z)) (fun i => false) 18 (by rfl) (by kernel_rfl) ?_
     refine tKf 0 S0.out ?_
     refine tKf 1 S0.out ?_
     refine tKf 2 S0.out ?_
     refine tKf 3 S0.out ?_
     refine tKf 4 S0.out ?_
     refine tKf 5 S0.out ?_
     refine tKf 6 S0.out ?_
     refine tKf 7 S0.out ?_
     refine tKf 8 S0.out ?_
     refine tKf 9 S0.out ?_
     refine tKf 10 S0.out ?_
     refine tKf 11 S0.out ?_
     refine tKf 12 S0.out ?_
     refine tKf 13 S0.out ?_
     refine uNe 14 (fun K hK => ?_)
     go_simp
     refine (cz _).mono ?_
     rintro e w2 ⟨rfl,rfl⟩
     go_wp2_with fail
     refine hK.out _ _ (fun _ _ => S0.out) ?_
     clear hK K
     try simp only [Act.put,zQ1,zQ2,zQ3]
     refine uNe 15 (fun K hK => ?_)
     go_simp
     refine (cv _).mono ?_
     rintro e w2 ⟨rfl,hb2⟩
     have HB2 : Hid (Below w.heap.size w w2) := ((HB1.out.trans (((Like.refl wr).drewN _).below.mono HB1.out.size)).drew).trans (hb2.mono HB1.out.size)
     clear hb2
     go_wp2_with fail
     refine hK.out _ _ (fun _ _ => HCY.out w2 HB2.out) ?_
     clear hK K
     try simp only [Act.put,zQ1,zQ2,zQ3]
     refine uNe 16 (fun K hK => ?_)
     go_simp
     go_wp2_with fail
     refine hK.out _ _ (fun _ h => h) ?_
     clear hK K
     try simp only [Act.put,zQ1,zQ2,zQ3]
     refine pUf 17 ?_
     refine until_done (by kernel_rfl) ?_ _
     go_wp2_with fail
     exact ⟨⟨k + 1,by omega,by omega,by go_num,by rw [HCT.out],HB2.out⟩,by simp [intOf]; omega⟩
   ·obtain rfl : k = n := by omega
    clear hb
    go_wp2_with fail
    go_ret
    exact ⟨by rw [HE.out]; rfl,HB1.out⟩
 ·obtain ⟨A,cap,rfl,_,_,_⟩ := hv
  have HE : Hid (showT l = txt []) := by unfold Hid showT; rw [if_neg ho]
  rw [decide_eq_false ho] at c
  clear ho
  go_enter Tryz.func113,Tryz.ntmps113
  go_wp2_with fail
  refine c.mono ?_
  rintro e w0 ⟨rfl,hL0⟩
  have B0 : Hid (Below w.heap.size w w0) := hL0.below
  clear hL0
  go_wp2_with fail
  go_ret
  exact ⟨by rw [HE.out]; rfl,B0.out⟩
def difs (l : List Int) (k : Nat) : List Int := (List.range k).map (dif l)
theorem difs_length (l : List Int) (k : Nat) : (difs l k).length = k := by simp [difs]
theorem difs_succ (l : List Int) (k : Nat) : difs l (k + 1) = difs l k ++ [dif l k] := by simp [difs,List.range_succ]
theorem difs_get (l : List Int) (k j : Nat) (h : j < k) : (difs l k).getD j 0 = dif l j := by simp [difs,List.getD,h]
theorem drop_getD (l : List Int) (j : Nat) : (l.drop 1).getD j 0 = l.getD (j + 1) 0 := by simp [List.getD]
theorem dif_difs (l : List Int) (k j : Nat) (h : j + 1 < k) : dif ((difs l k).drop 1) j = if j = 0 then dif l 1 else dif l (j + 1) - dif l j := by
 conv => lhs; unfold dif
 rw [drop_getD,difs_get l k (j + 1) h]
 unfold prv
 by_cases hj : j = 0
 ·subst hj
  simp
 ·rw [if_neg hj,if_neg hj,drop_getD,show j - 1 + 1 = j by omega,difs_get l k j (by omega)]
set_option maxHeartbeats 1000000 in
theorem showTimes1 (k : Nat) (d : Int) (p base : Nat) (l : List Int) (v : Value) (w : World) (hb : Blk w p #[v] 132) (hv : Nums w base v l) (hl : l.length ≤ 1000) (hp : p < base) (hbw : base ≤ w.heap.size) :
  Calls Tryz.prog 185 #[.int .i64 (k : Int),.int .i64 d,.pointer (some ⟨p,0,none⟩)] w fun e w' => (∃ u,e = .returned u) ∧ (∃ v',Blk w' p #[v'] 132 ∧ Nums w' base v' (l ++ [d])) ∧ Below p w w' := by
 have HBK := hQz hb
 have e0 := hb.cell 0 v rfl
 have HV := hQz hv
 obtain ⟨A,c,rfl,_,_⟩ := hv.shape
 have HL : Hid (l.length ≤ 2097152) := by unfold Hid; omega
 have HP : Hid (p < base) := hp
 have HBW : Hid (base ≤ w.heap.size) := hbw
 clear hb hv hl hp hbw
 go_enter Tryz.func185,Tryz.ntmps185
 go_wp2_with (at_builtin; refine wpList_append_num rfl (.tmp 5) (.tmp 7) 132 rfl Tryz.underlying132 Tryz.infoInt base _ l rfl HV.out d rfl HL.out HBW.out ?_; intro v' w1 hN1 hb1 hk1; obtain ⟨A',c',rfl,_,_⟩ := hN1.shape; have K1 := HBK.out.on hb1 HP.out; have f0 := K1.cell 0 _ rfl; have f1 := K1.free 0)
 have hK := K1.set 0 (.slice A' (l ++ [d]).length c')
 have hlen : (l ++ [d]).length = l.length + 1 := by simp
 rw [hlen] at hK hN1
 have hne : (Value.slice A' (l.length + 1) c').ownBlock ≠ some p := fun e => by have := (hN1.lt p e).1; have := HP.out; omega
 exact bodyPost_end (v := .tuple #[]) (by simp [results,go_sem]) rfl ⟨⟨_,rfl⟩,⟨_,hK,hN1.other hne _ _⟩,(hb1.mono (Nat.le_of_lt HP.out)).setCell (Nat.le_refl _) _⟩
set_option maxHeartbeats 1000000 in
theorem showTimes2 (k : Nat) (d z : Int) (gb : Nat) (l : List UInt8) (w : World) (hz : z = if k = 0 then d else zig d) (hz0 : 0 ≤ z) (hz1 : z ≤ 281474976710656) (hd0 : -9223372036854775808 ≤ d) (hd1 : d ≤ 9223372036854775807) (hb : Bld gb l w) (hl : l.length ≤ 1000) (hg : gb ≤ w.heap.size) (hkn : k ≤ 1000) :
  Calls Tryz.prog 186 #[.int .i64 (k : Int),.int .i64 d,.pointer (some ⟨gb,0,none⟩)] w fun e w' => (∃ u,e = .returned u) ∧ Bld gb (l ++ vF 6 z.toNat) w' ∧ Below gb w w' := by
 have cz := fun wx => impl_zig d wx hd0 hd1
 have cv := fun wx => impl_var z.toNat wx (by omega)
 rw [Int.toNat_of_nonneg hz0] at cv
 have HBD : Hid (Bld gb l w) := hb
 have HG : Hid (gb ≤ w.heap.size) := hg
 have hvl := vF_length 6 z.toNat
 have HL : Hid (l.length + (vF 6 z.toNat).length ≤ 1048576) := by unfold Hid; omega
 have hkI : (k : Int) ≤ 1000 := by omega
 clear hb hg hl hvl
 generalize hvv : vF 6 z.toNat = vv at *
 by_cases hk : k = 0
 ·rw [if_pos hk] at hz
  subst hz
  subst hk
  go_enter Tryz.func186,Tryz.ntmps186
  go_wp2_with fail
  refine (cv _).mono ?_
  rintro e w2 ⟨rfl,hb2⟩
  have HB2 := hQz (hb2.mono HG.out)
  have Z2 := hQz (Nat.le_trans HG.out hb2.size)
  have L2 := hQz (HBD.out.on hb2)
  clear hb2
  go_wp2_with fail
  refine (bldWriteT gb l vv w2 L2.out HL.out Z2.out).mono ?_
  rintro e w3 ⟨rfl,hB3,hb3,_⟩
  have HB3 := hQz (HB2.out.trans hb3)
  clear hb3
  go_wp2_with fail
  exact bodyPost_end (v := .tuple #[]) (by simp [results,go_sem]) rfl ⟨⟨_,rfl⟩,hB3,HB3.out⟩
 ·rw [if_neg hk] at hz
  have q1 : (0 : Int) < (k : Int) := by omega
  have q2 : 0 < k := by omega
  rw [← hz] at cz
  clear hz hk
  go_enter Tryz.func186,Tryz.ntmps186
  go_wp2_with fail
  refine (cz _).mono ?_
  rintro e w1 ⟨rfl,rfl⟩
  go_wp2_with fail
  refine (cv _).mono ?_
  rintro e w2 ⟨rfl,hb2⟩
  have HB2 := hQz (hb2.mono HG.out)
  have Z2 := hQz (Nat.le_trans HG.out hb2.size)
  have L2 := hQz (HBD.out.on hb2)
  clear hb2
  go_wp2_with fail
  refine (bldWriteT gb l vv w2 L2.out HL.out Z2.out).mono ?_
  rintro e w3 ⟨rfl,hB3,hb3,_⟩
  have HB3 := hQz (HB2.out.trans hb3)
  clear hb3
  go_wp2_with fail
  exact bodyPost_end (v := .tuple #[]) (by simp [results,go_sem]) rfl ⟨⟨_,rfl⟩,hB3,HB3.out⟩
set_option maxHeartbeats 1000000 in
theorem implShowTimes (l : List Int) (v : Value) (w : World) (B : Nat) (hv : NumsV w B v l) (hn : l.length ≤ 1048576) (hB : B ≤ w.heap.size) : Calls Tryz.prog 160 #[v] w fun e w' => e = .returned (.string (showT l)) ∧ Below w.heap.size w w' := by
 have c := implTimesOk l v w B hv hn
 have HV := hQz hv
 have HB : Hid (B ≤ w.heap.size) := hB
 by_cases ho : TOk l
 ·obtain ⟨g,off,cap,rfl,_,_,hg,hc0⟩ := hv.full ho.1
  have HC : Hid (∀ wx,Below w.heap.size w wx → wx.cell? ⟨g,off,none⟩ = some (.int .i64 (l.getD 0 0))) := fun wx hx => hc0 wx (hx.mono hB) 0 ho.1
  have HE : Hid (showT l = txt (cat (tPiece l) l.length)) := by unfold Hid showT; rw [if_pos ho]
  have HO : Hid (TOk l) := ho
  have HN : Hid (1 ≤ l.length ∧ l.length ≤ 60) := ⟨ho.1,ho.2.1⟩
  rw [decide_eq_true ho] at c
  have q1 : (1 : Int) ≤ (l.length : Int) := by have := ho.1; omega
  have q2 : (l.length : Int) ≤ 60 := by have := ho.2.1; omega
  have k0 := Blk.new w #[.slice none 0 0] 132
  have b0 : Below w.heap.size w (w.alloc (.cells #[.slice none 0 0] 132)) := (Below.refl _ _).alloc (Nat.le_refl _) _
  clear ho hB hc0 hv
  go_enter Tryz.func160,Tryz.ntmps160
  go_wp2_with fail
  refine c.mono ?_
  rintro e w0 ⟨rfl,rfl⟩
  go_wp2_with fail
  generalize w.alloc (.cells #[.slice none 0 0] 132) = W at *
  have cD := differencesV l (.slice (some ⟨g,off,none⟩) l.length cap) W B 185 #[.pointer (some ⟨w.heap.size,0,none⟩)] (fun k wx => Below w.heap.size w wx ∧ ∃ v',Blk wx w.heap.size #[v'] 132 ∧ Nums wx (w.heap.size + 1) v' (difs l k)) (fun _ _ => by kernel_rfl) hn (fun k hk => by have := HO.out.dif k hk; omega) (fun k wx hx => HV.out.on (hx.1.mono HB.out)) ⟨b0,_,k0,Nums.nil _ _⟩ (fun k hk wx hx => by
   obtain ⟨hx1,v',hx2,hx3⟩ := hx
   have hd := HO.out.dif k hk
   have hN := HN.out
   refine (showTimes1 k (dif l k) w.heap.size (w.heap.size + 1) (difs l k) v' wx hx2 hx3 (by rw [difs_length]; omega) (by omega) hx2.lt).mono ?_
   rintro e w' ⟨hu,⟨v2,h1,h2⟩,h3⟩
   exact ⟨hu,hx1.trans h3,v2,h1,by rw [difs_succ]; exact h2⟩)
  refine cD.mono ?_
  rintro e w2 ⟨⟨u,rfl⟩,hb2,v2,hk2,hN2⟩
  obtain ⟨A2,c2,rfl,hc2,hm2⟩ := hN2.shape
  rw [difs_length] at hk2 hc2
  obtain ⟨g2,rfl,hg2,hg3⟩ := hN2.block (by rw [difs_length]; have := HN.out; omega)
  have b3 : Below w.heap.size w (w2.alloc (.cells #[.pointer none,.slice none 0 0] 75)) := hb2.alloc hb2.size _
  have k3 : (w2.alloc (.cells #[.pointer none,.slice none 0 0] 75)).heap[w2.heap.size]? = some (.cells #[.pointer none,.slice none 0 0] 75 (0,0)) := heap_alloc_new w2 _
  have K3 : Hid (Blk (w2.alloc (.cells #[.pointer none,.slice none 0 0] 75)) w.heap.size #[.slice (some ⟨g2,0,none⟩) l.length c2] 132) := hk2.alloc _
  have N3 : Hid (Nums (w2.alloc (.cells #[.pointer none,.slice none 0 0] 75)) (w.heap.size + 1) (.slice (some ⟨g2,0,none⟩) (difs l l.length).length c2) (difs l l.length)) := hN2.alloc _
  have e3 := HC.out _ b3
  have hT0 := HO.out.turn 0 HN.out.1
  have ht0 : turn l 0 = l.getD 0 0 := by unfold turn dif prv; simp
  have cv0 := fun wx => impl_var (turn l 0).toNat wx (by omega)
  rw [Int.toNat_of_nonneg hT0.1] at cv0
  have HC1 : Hid (vF 6 (turn l 0).toNat = cat (tPiece l) 1) := by unfold Hid; rw [cat_succ,cat_zero]; rfl
  have HVL : Hid ((vF 6 (turn l 0).toNat).length ≤ 7) := by have := vF_length 6 (turn l 0).toNat; unfold Hid; omega
  generalize vF 6 (turn l 0).toNat = s1 at *
  rw [ht0] at cv0
  have LB3 : Hid (Bld w2.heap.size [] (w2.alloc (.cells #[.pointer none,.slice none 0 0] 75))) := bld_new k3
  have B3 := hQz b3
  have Z3 : Hid (w2.heap.size ≤ (w2.alloc (.cells #[.pointer none,.slice none 0 0] 75)).heap.size) := by unfold Hid; simp
  have GB := hQz (hb2.size)
  have G2 : Hid (g2 < w2.heap.size) := hg3
  have P2 := hQz (hk2.lt)
  clear cD hb2 hk2 hN2 hg2 hg3 b0 k0 k3 b3 hT0 ht0
  generalize l.getD 0 0 = x0 at *
  go_wp2_with fail
  generalize w2.alloc (.cells #[.pointer none,.slice none 0 0] 75) = w3 at *
  generalize w2.heap.size = gb at *
  refine (cv0 _).mono ?_
  rintro e w4 ⟨rfl,hb4⟩
  have B4 := hQz (B3.out.trans (hb4.mono B3.out.size))
  have K4 := hQz (K3.out.on hb4 K3.out.lt)
  have N4 := hQz (N3.out.on hb4)
  have LB4 := hQz (LB3.out.on hb4)
  have Z4 := hQz (Nat.le_trans Z3.out hb4.size)
  clear hb4 K3 N3 LB3 B3 Z3 e3 cv0
  go_wp2_with fail
  refine (bldWriteT gb [] s1 w4 LB4.out (by have := HVL.out; simp; omega) Z4.out).mono ?_
  rintro e w5 ⟨rfl,hB5,hb5,_⟩
  have B5 := hQz (B4.out.trans (hb5.mono GB.out))
  have K5 := hQz (K4.out.on hb5 P2.out)
  have N5 : Hid (Nums w5 (w.heap.size + 1) (.slice (some ⟨g2,0,none⟩) (difs l l.length).length c2) (difs l l.length)) := N4.out.kept fun g hg ho => by
   injection ho with ho
   subst ho
   exact hb5.block _ G2.out
  have L5 : Hid (Bld gb (cat (tPiece l) 1) w5) := by rw [HC1.out] at hB5; exact hB5
  have Z5 := hQz (Nat.le_trans Z4.out hb5.size)
  have e5 := K5.out.cell 0 _ rfl
  clear hb5 hB5 K4 N4 LB4 B4 Z4
  have qc : (l.length : Int) ≤ (c2 : Int) := by omega
  have hdl : ((difs l l.length).drop 1).length = l.length - 1 := by rw [List.length_drop,difs_length]
  have cD2 : ∀ v2,NumsV w5 gb v2 ((difs l l.length).drop 1) → Calls Tryz.prog 184 #[v2,.func (.func 186) #[] #[.pointer (some ⟨gb,0,none⟩)]] w5 fun e w' => (∃ u,e = .returned u) ∧ (Below w.heap.size w w' ∧ gb ≤ w'.heap.size) ∧ Bld gb (cat (tPiece l) l.length) w' := by
   intro v2 hv2
   have hN := HN.out
   refine (differencesV ((difs l l.length).drop 1) v2 w5 gb 186 #[.pointer (some ⟨gb,0,none⟩)] (fun k wx => ((Below w.heap.size w wx ∧ gb ≤ wx.heap.size) ∧ Bld gb (cat (tPiece l) (k + 1)) wx) ∧ NumsV wx gb v2 ((difs l l.length).drop 1)) (fun _ _ => by kernel_rfl) (by rw [hdl]; omega) ?_ (fun k wx hx => hx.2) ⟨⟨⟨B5.out,Z5.out⟩,L5.out⟩,hv2⟩ ?_).mono ?_
   ·intro k hk
    rw [hdl] at hk
    rw [dif_difs l l.length k (by omega)]
    have h1 := HO.out.dif 1 (by omega)
    have h2 := HO.out.dif (k + 1) (by omega)
    have h3 := HO.out.dif k (by omega)
    split <;> omega
   ·intro k hk wx hx
    obtain ⟨⟨⟨x1,x2⟩,x3⟩,x4⟩ := hx
    rw [hdl] at hk
    have h1 := HO.out.dif 1 (by omega)
    have h2 := HO.out.dif (k + 1) (by omega)
    have h3 := HO.out.dif k (by omega)
    have ht := HO.out.turn (k + 1) (by omega)
    have hcl := cat_length (tPiece l) (tPiece_length l) (k + 1)
    have ed := dif_difs l l.length k (by omega)
    have et : turn l (k + 1) = if k = 0 then dif ((difs l l.length).drop 1) k else zig (dif ((difs l l.length).drop 1) k) := by
     rw [ed]
     unfold turn
     by_cases hk0 : k = 0
     ·subst hk0; simp
     ·rw [if_neg (by omega),if_neg hk0,if_neg hk0,Nat.add_sub_cancel]
    refine (showTimes2 k (dif ((difs l l.length).drop 1) k) (turn l (k + 1)) gb (cat (tPiece l) (k + 1)) wx et ht.1 ht.2 (by rw [ed]; split <;> omega) (by rw [ed]; split <;> omega) x3 (by omega) x2 (by omega)).mono ?_
    rintro e w' ⟨hu,y1,y2⟩
    exact ⟨hu,⟨⟨x1.trans (y2.mono GB.out),Nat.le_trans x2 y2.size⟩,by rw [cat_succ]; exact y1⟩,x4.on y2⟩
   ·rintro e w' ⟨hu,⟨y1,y2⟩,_⟩
    rw [hdl,show l.length - 1 + 1 = l.length by omega] at y2
    exact ⟨hu,y1,y2⟩
  have HD2 : Hid (∀ v2,NumsV w5 gb v2 ((difs l l.length).drop 1) → Calls Tryz.prog 184 #[v2,.func (.func 186) #[] #[.pointer (some ⟨gb,0,none⟩)]] w5 fun e w' => (∃ u,e = .returned u) ∧ (Below w.heap.size w w' ∧ gb ≤ w'.heap.size) ∧ Bld gb (cat (tPiece l) l.length) w') := cD2
  have HDL : Hid (((difs l l.length).drop 1).length = l.length - 1) := hdl
  clear cD2 hdl
  go_wp2_with fail
  rotate_left
  ·refine (HD2.out _ ⟨_,c2 - 1,by rw [HDL.out],by rw [HDL.out]; omega,by omega,fun j hj => ?_⟩).mono ?_
   ·rw [HDL.out] at hj
    refine ⟨g2,1,rfl,G2.out,?_⟩
    rw [drop_getD,Nat.add_comm 1 j]
    exact N5.out.cell (j + 1) (by rw [difs_length]; omega)
   rintro e w6 ⟨⟨u6,rfl⟩,⟨hb6,hz6⟩,hB6⟩
   have cS := bldStringT gb _ w6 hB6 hz6
   have B6 := hQz hb6
   clear hb6 hz6 hB6
   go_wp2_with fail
   refine cS.mono ?_
   rintro e w7 ⟨rfl,hb7⟩
   have B7 := hQz (B6.out.trans (hb7.mono GB.out))
   clear hb7 cS
   go_wp2_with fail
   go_ret
   exact ⟨by rw [HE.out]; rfl,B7.out⟩
  ·refine (HD2.out _ ⟨_,0,by rw [HDL.out],by rw [HDL.out]; omega,by unfold maxLen; omega,fun j hj => ?_⟩).mono ?_
   ·rw [HDL.out] at hj
    omega
   rintro e w6 ⟨⟨u6,rfl⟩,⟨hb6,hz6⟩,hB6⟩
   have cS := bldStringT gb _ w6 hB6 hz6
   have B6 := hQz hb6
   clear hb6 hz6 hB6
   go_wp2_with fail
   refine cS.mono ?_
   rintro e w7 ⟨rfl,hb7⟩
   have B7 := hQz (B6.out.trans (hb7.mono GB.out))
   clear hb7 cS
   go_wp2_with fail
   go_ret
   exact ⟨by rw [HE.out]; rfl,B7.out⟩
 ·obtain ⟨A,cap,rfl,_,_,_⟩ := hv
  have HE : Hid (showT l = txt []) := by unfold Hid showT; rw [if_neg ho]
  rw [decide_eq_false ho] at c
  clear ho
  go_enter Tryz.func160,Tryz.ntmps160
  go_wp2_with fail
  refine c.mono ?_
  rintro e w0 ⟨rfl,rfl⟩
  go_wp2_with fail
  go_ret
  exact ⟨by rw [HE.out]; rfl,Below.refl _ _⟩
end Go.Proofs.YthhamlahdjokkaaGreatDoor
