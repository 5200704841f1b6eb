/- IgShowI StLaw2 LawShowState StArg -/
import Derived.Test.YthhamlahdjokkaaGreatDoorRows
import Derived.Test.YthhamlahdjokkaaGreatDoorQh4
import Derived.Test.YthhamlahdjokkaaGreatDoorQh8
import Derived.Test.YthhamlahdjokkaaGreatDoorQh13
import Derived.Test.YthhamlahdjokkaaGreatDoorQh17
import Derived.Test.YthhamlahdjokkaaGreatDoorQh12
import Derived.Test.YthhamlahdjokkaaGreatDoorQh18
import Derived.Test.YthhamlahdjokkaaGreatDoorQh5
import Derived.Test.YthhamlahdjokkaaGreatDoorQh1
import Derived.WalkKit
import Derived.ProofKit
import Derived.OpenShut
import Derived.Below
import Derived.WalkSmall
import Derived.Handy
import Derived.Deep.Cut
import Derived.Deep.CutRange
import Derived.Test.YthhamlahdjokkaaGreatDoorQh9
import Derived.BigQuiet
import Derived.Deep.QuietTactic
import Derived.Deep.RegionWith
import Derived.Deep.Slices
import Derived.ChangeArms
open List (setIfInBounds_toArray set_cons_zero set_cons_succ)
namespace Go.Proofs.YthhamlahdjokkaaGreatDoor
open Go.ChangeShapes Go.WideShapes Go.ChangeAt Go.RowKit Go.PlainAid
set_option linter.unusedVariables false
theorem strCells_app (t s : ByteArray) : Lib.strCells (t ++ s) = Lib.strCells t ++ Lib.strCells s := by simp [Lib.strCells]
def BldB (gb : Nat) (t : ByteArray) (w : World) : Prop := Lib.IsBuilderF 75 5 gb gb (Lib.strCells t) w
theorem BldB.on {gb : Nat} {t : ByteArray} {w w' : World} (h : BldB gb t w) (hb : Below w.heap.size w w') : BldB gb t w' := bld_on h hb
theorem bldWriteB (gb : Nat) (t s : ByteArray) (w : World) (h : BldB gb t w) (hlen : t.size + s.size ≤ 100000000) (hBw : gb ≤ w.heap.size) :
  Calls Tryz.prog 39 #[.pointer (some ⟨gb, 0, none⟩), .string s] w fun e w' => e = .returned (.tuple #[.int .i64 s.size, .nilIface]) ∧ BldB gb (t ++ s) w' ∧ Below gb w w' ∧ Lib.OthersKept 5 (some gb) w w' := by
 refine (bldWrite gb gb _ s w h (by rw [Lib.strCells_length]; omega) hBw).mono ?_
 rintro e w' ⟨rfl, h1, h2, h3⟩
 refine ⟨rfl, ?_, h2, h3⟩
 unfold BldB
 rw [strCells_app]
 exact .inr h1
theorem bldStringB (gb : Nat) (t : ByteArray) (w : World) (h : BldB gb t w) (hBw : gb ≤ w.heap.size) :
  Calls Tryz.prog 45 #[.pointer (some ⟨gb, 0, none⟩)] w fun e w' => e = .returned (.string t) ∧ Below gb w w' := by
 have h' : Lib.IsBuilderF 75 5 gb gb (Lib.byteCells t.data.toList) w := h
 refine (bldString gb gb _ w h' hBw).mono ?_
 rintro e w' ⟨rfl, _, h2, _⟩
 exact ⟨by simp, h2⟩
theorem BldB.lt {gb : Nat} {t : ByteArray} {w : World} (h : BldB gb t w) : gb < w.heap.size := by
 rcases h with ⟨_, v, hh, _⟩ | ⟨_, v, hh, _⟩
 ·exact lt_of_block hh
 ·exact lt_of_block hh
set_option maxRecDepth 20000 in
set_option maxHeartbeats 16000000 in
theorem implShowState (x : Sta) (v : Value) (w : World) (B : Nat) (hv : StaV w B v x) (hs : StShort x) (hB : B ≤ w.heap.size) (hst : SumTab w) (a0 a1 a2 : Addr) (he : Errs w a0 a1 a2) :
  Calls Tryz.prog 12 #[v] w fun e w' => e = .returned (.string (staT x)) ∧ Below w.heap.size w w' := by
 have HV := Hid.mk hv
 have HB : Hid (B ≤ w.heap.size) := hB
 have HS : Hid (StShort x) := hs
 have ST : Hid (SumTab w) := hst
 have ER : Hid (Errs w a0 a1 a2) := he
 clear hst he
 obtain ⟨vb, vc, vf, vs, rfl, hb0, hc0, hf0, hs0⟩ := hv
 have HC := Hid.mk hc0
 obtain ⟨Ab, cb, rfl, hlb⟩ := pt_look hb0
 obtain ⟨Ac, cc, rfl, hlc⟩ := hc0.look
 obtain ⟨Af, cf, rfl, hlf⟩ := st_look hf0
 obtain ⟨As, cs, rfl, hls⟩ := ses_look hs0
 have HLB := Hid.mk hlb
 have HLF := Hid.mk hlf
 have HLS := Hid.mk hls
 clear hb0 hc0 hf0 hs0 hlb hlc hlf hls hB hs
 have c0 := fun wx (h : Below w.heap.size w wx) => implStateOk x _ wx B (HV.out.on (h.mono HB.out)) HS.out (Nat.le_trans HB.out h.size) (ST.out.on h) a0 a1 a2 (ER.out.on h)
 have HX : Hid (∀ vb vc vf vs, vSt x vb vc vf vs = .agg #[.int .i64 x.kind, .int .i64 x.hold, .int .i64 x.mark, vb, .int .i64 x.eng.floor, vc, vf, vs]) := fun _ _ _ _ => rfl
 rw [HX.out] at c0 ⊢
 clear HV
 have HNB : Hid (∀ n, x.bks.length = n → n = x.bks.length) := fun _ h => h.symm
 generalize hnb : x.bks.length = nb at *
 generalize hnc : x.eng.cache.length = nc at *
 generalize hnf : x.eng.files.length = nf at *
 generalize hns : x.ses.length = ns at *
 have HNN : Hid (x.bks.length = nb ∧ x.eng.cache.length = nc ∧ x.eng.files.length = nf ∧ x.ses.length = ns) := ⟨hnb, hnc, hnf, hns⟩
 clear hnb hnc hnf hns HNB
 cases ho : staOk x
 ·have HE : Hid (staT x = ⟨#[]⟩) := staT_no ho
  rw [ho] at c0
  clear ho
  generalize x.kind = sk at *
  generalize x.hold = sh at *
  generalize x.mark = sm at *
  generalize x.eng.floor = sf at *
  have hb0 := (Below.refl w.heap.size w).alloc (Nat.le_refl _) (.cells #[.int .i64 sk, .int .i64 sh, .int .i64 sm, .slice Ab nb cb, .int .i64 sf, .slice Ac nc cc, .slice Af nf cf, .slice As ns cs] 38)
  have k0 := Blk.new w #[.int .i64 sk, .int .i64 sh, .int .i64 sm, .slice Ab nb cb, .int .i64 sf, .slice Ac nc cc, .slice Af nf cf, .slice As ns cs] 38
  have kb0 := k0.cell 0 _ rfl
  have kb1 := k0.cell 1 _ rfl
  have kb2 := k0.cell 2 _ rfl
  have kb3 := k0.cell 3 _ rfl
  have kb4 := k0.cell 4 _ rfl
  have kb5 := k0.cell 5 _ rfl
  have kb6 := k0.cell 6 _ rfl
  have kb7 := k0.cell 7 _ rfl
  clear k0
  go_enter Tryz.func12, Tryz.ntmps12
  go_wp2_with fail
  generalize w.alloc (.cells #[.int .i64 sk, .int .i64 sh, .int .i64 sm, .slice Ab nb cb, .int .i64 sf, .slice Ac nc cc, .slice Af nf cf, .slice As ns cs] 38) = W at *
  clear kb0 kb1 kb2 kb3 kb4 kb5 kb6 kb7
  refine (c0 _ hb0).mono ?_
  rintro e w1 ⟨rfl, hb1⟩
  have B1 : Hid (Below w.heap.size w w1) := hb0.trans (hb1.mono hb0.size)
  clear hb0 hb1 c0
  go_wp2_with fail
  go_ret
  exact ⟨by rw [HE.out]; rfl, B1.out⟩
 rw [ho] at c0
 have HE : Hid (staT x = imT x) := staT_yes ho
 have HSZ : Hid ((imT x).size ≤ 30000) := imT_size ho
 obtain ⟨⟨a1, a2⟩, ⟨a3, a4⟩, ⟨a5, a6⟩, a7, a8, ⟨a9, b1⟩, b2, b3, b4, b5, b6⟩ := staOk_in ho
 have HBK := Hid.mk (bok_in x.bks 0 (Int.le_refl _) a8)
 have HSE := Hid.mk (ses_in x.ses 1 (by decide) b6)
 have HFI : Hid (∀ s ∈ x.eng.files, s.size ≤ 5004) := fun s hs => isF_size (b4 s hs)
 have HCK := Hid.mk HS.out.2.1
 clear ho HS
 obtain ⟨kn, hkn⟩ : ∃ n : Nat, x.kind = (n : Int) := ⟨x.kind.toNat, by omega⟩
 obtain ⟨hn, hhn⟩ : ∃ n : Nat, x.hold = (n : Int) := ⟨x.hold.toNat, by omega⟩
 obtain ⟨mn, hmn⟩ : ∃ n : Nat, x.mark = (n : Int) := ⟨x.mark.toNat, by omega⟩
 obtain ⟨fn, hfn⟩ : ∃ n : Nat, x.eng.floor = (n : Int) := ⟨x.eng.floor.toNat, by omega⟩
 rw [hkn] at a1 a2
 rw [hhn] at a3 a4
 rw [hmn] at a5 a6
 rw [hfn] at a9 b1
 have HI1 : Hid (im1 x = txt [byt kn] ++ txt (vF 6 hn) ++ txt (vF 6 mn) ++ txt (vF 6 nb)) := by unfold Hid im1 vT; rw [hkn, hhn, hmn, HNN.out.1]; simp only [Int.toNat_natCast]
 have HI2 : Hid (im2 x = txt (vF 6 fn) ++ pcT (fileT x.eng.cache) ++ txt (vF 6 nf)) := by unfold Hid im2 vT; rw [hfn, HNN.out.2.2.1]; simp only [Int.toNat_natCast]
 have HI3 : Hid (vT (x.ses.length : Int) = txt (vF 6 ns)) := by unfold Hid vT; rw [HNN.out.2.2.2, Int.toNat_natCast]
 have z7 : nb ≤ 12 := by have := HNN.out.1; omega
 have z8 : nf ≤ 4 := by have := HNN.out.2.2.1; omega
 have z9 : ns ≤ 4 := by have := HNN.out.2.2.2; omega
 rw [hkn, hhn, hmn, hfn] at c0 ⊢
 clear hkn hhn hmn hfn a7 a8 b2 b3 b4 b5 b6 HX
 have qb : (nb : Int) ≤ 12 := by omega
 have qf : (nf : Int) ≤ 4 := by omega
 have qs : (ns : Int) ≤ 4 := by omega
 have cF := fun wx (h : Below w.heap.size w wx) => implFileText x.eng.cache _ wx B (HC.out.on (h.mono HB.out)) HCK.out.1 HCK.out.2.1 (Nat.le_trans HB.out h.size) (ST.out.on h)
 have HFT : Hid ((fileT x.eng.cache).size ≤ 5004) := fileT_size _
 have HBT : Hid (∀ k, (catT bkT (x.bks.take k)).size ≤ 168) := fun k => by
  have h1 := catT_take_size bkT x.bks 14 k (fun b _ => bkT_size b)
  have h2 : x.bks.length * 14 ≤ 12 * 14 := Nat.mul_le_mul_right _ (by have := HNN.out.1; omega)
  omega
 have HFS : Hid (∀ k, (catT pcT (x.eng.files.take k)).size ≤ 20044) := fun k => by
  have h1 := catT_take_size pcT x.eng.files 5011 k (fun s hs => by have := pcT_size s; have := HFI.out s hs; omega)
  have h2 : x.eng.files.length * 5011 ≤ 4 * 5011 := Nat.mul_le_mul_right _ (by have := HNN.out.2.2.1; omega)
  omega
 have HST : Hid (∀ k, (catT seT (x.ses.take k)).size ≤ 3768) := fun k => by
  have h1 := catT_take_size seT x.ses 942 k (fun b _ => seT_size b)
  have h2 : x.ses.length * 942 ≤ 4 * 942 := Nat.mul_le_mul_right _ (by have := HNN.out.2.2.2; omega)
  omega
 have i1 := im1_size x
 have i2 := im2_size x
 have HZ : Hid ((im1 x).size ≤ 22 ∧ (im2 x).size ≤ 5025) := ⟨i1, i2⟩
 clear i1 i2
 have HAL : Hid (catT bkT (x.bks.take nb) = catT bkT x.bks ∧ catT pcT (x.eng.files.take nf) = catT pcT x.eng.files ∧ catT seT (x.ses.take ns) = catT seT x.ses) := by
  have h := HNN.out
  refine ⟨?_, ?_, ?_⟩
  ·rw [← h.1, List.take_length]
  ·rw [← h.2.2.1, List.take_length]
  ·rw [← h.2.2.2, List.take_length]
 have hb0 := (Below.refl w.heap.size w).alloc (Nat.le_refl _) (.cells #[.int .i64 (kn : Int), .int .i64 (hn : Int), .int .i64 (mn : Int), .slice Ab nb cb, .int .i64 (fn : Int), .slice Ac nc cc, .slice Af nf cf, .slice As ns cs] 38)
 have k0 := Blk.new w #[.int .i64 (kn : Int), .int .i64 (hn : Int), .int .i64 (mn : Int), .slice Ab nb cb, .int .i64 (fn : Int), .slice Ac nc cc, .slice Af nf cf, .slice As ns cs] 38
 have kb0 := k0.cell 0 _ rfl
 have kb1 := k0.cell 1 _ rfl
 have kb2 := k0.cell 2 _ rfl
 have kb3 := k0.cell 3 _ rfl
 have kb4 := k0.cell 4 _ rfl
 have kb5 := k0.cell 5 _ rfl
 have kb6 := k0.cell 6 _ rfl
 have kb7 := k0.cell 7 _ rfl
 go_enter Tryz.func12, Tryz.ntmps12
 go_wp2_with fail
 generalize w.alloc (.cells #[.int .i64 (kn : Int), .int .i64 (hn : Int), .int .i64 (mn : Int), .slice Ab nb cb, .int .i64 (fn : Int), .slice Ac nc cc, .slice Af nf cf, .slice As ns cs] 38) = W at *
 clear kb0 kb1 kb2 kb3 kb4 kb5 kb6 kb7
 refine (c0 _ hb0).mono ?_
 rintro e w1 ⟨rfl, hb1⟩
 have B1 : Hid (Below w.heap.size w w1) := hb0.trans (hb1.mono hb0.size)
 have K1 := Hid.mk (k0.on hb1 k0.lt)
 clear hb0 hb1 c0 k0
 have cK : ∀ wx, Calls Tryz.prog 40 #[.int .i64 (kn : Int), .int .i64 1] wx fun e w' => e = .returned (.string (txt [byt kn])) ∧ Below wx.heap.size wx w' := fun wx => by
  have h := impl_fixed kn 1 wx (by omega) (by omega) (by omega)
  rw [fixed_oneC kn (by omega)] at h
  exact h
 have cH := fun wx => impl_var hn wx (by omega)
 have cM := fun wx => impl_var mn wx (by omega)
 have cN := fun wx => impl_var nb wx (by omega)
 have cFl := fun wx => impl_var fn wx (by omega)
 have cNf := fun wx => impl_var nf wx (by omega)
 have cNs := fun wx => impl_var ns wx (by omega)
 have l0 : (txt [byt kn]).size = 1 := by rw [txt_size]; rfl
 have l1 : (txt (vF 6 hn)).size ≤ 7 := by rw [txt_size]; exact vF_length 6 _
 have l2 : (txt (vF 6 mn)).size ≤ 7 := by rw [txt_size]; exact vF_length 6 _
 have l3 : (txt (vF 6 nb)).size ≤ 7 := by rw [txt_size]; exact vF_length 6 _
 have l4 : (txt (vF 6 fn)).size ≤ 7 := by rw [txt_size]; exact vF_length 6 _
 have l5 : (txt (vF 6 nf)).size ≤ 7 := by rw [txt_size]; exact vF_length 6 _
 have l6 : (txt (vF 6 ns)).size ≤ 7 := by rw [txt_size]; exact vF_length 6 _
 generalize txt [byt kn] = t0 at *
 generalize txt (vF 6 hn) = t1 at *
 generalize txt (vF 6 mn) = t2 at *
 generalize txt (vF 6 nb) = t3 at *
 generalize txt (vF 6 fn) = t4 at *
 generalize txt (vF 6 nf) = t5 at *
 generalize txt (vF 6 ns) = t6 at *
 have p1 : ¬ 9223372036854775807 < t0.size + t1.size := by omega
 have p2 : ¬ 9223372036854775807 < t0.size + t1.size + t2.size := by omega
 have p3 : ¬ 9223372036854775807 < t0.size + t1.size + t2.size + t3.size := by omega
 have HLEN : Hid ((ByteArray.empty).size + (t0 ++ t1 ++ t2 ++ t3).size ≤ 100000000) := by unfold Hid; simp only [ByteArray.size_append]; have : (ByteArray.empty).size = 0 := rfl; omega
 have HIa : Hid (ByteArray.empty ++ (t0 ++ t1 ++ t2 ++ t3) = im1 x ++ catT bkT (x.bks.take 0)) := by unfold Hid; rw [HI1.out]; simp [catT]
 clear a1 a2 a3 a4 a5 a6 a9 b1 l0
 obtain ⟨gs, hgs⟩ : ∃ gs, gs = w.heap.size := ⟨_, rfl⟩
 have HGS : Hid (w.heap.size ≤ gs) := by unfold Hid; omega
 rw [← hgs] at K1
 have hal := (Below.refl w1.heap.size w1).alloc (Nat.le_refl _) (.cells #[.pointer none, .slice none 0 0] 75)
 have k3 := Blk.new w1 #[.pointer none, .slice none 0 0] 75
 have LB : Hid (BldB w1.heap.size ByteArray.empty (w1.alloc (.cells #[.pointer none, .slice none 0 0] 75))) := bld_new k3
 have B2 : Hid (Below w.heap.size w (w1.alloc (.cells #[.pointer none, .slice none 0 0] 75))) := B1.out.trans (hal.mono B1.out.size)
 have K2 := Hid.mk (K1.out.on hal K1.out.lt)
 have HGB0 : Hid (gs < w1.heap.size) := K1.out.lt
 have ZB0 : Hid (w1.heap.size ≤ (w1.alloc (.cells #[.pointer none, .slice none 0 0] 75)).heap.size) := hal.size
 clear hal k3
 go_wp2_with fail
 rw [← hgs]
 clear hgs
 obtain ⟨gb, hgb⟩ : ∃ gb, gb = w1.heap.size := ⟨_, rfl⟩
 rw [← hgb]
 rw [← hgb] at LB HGB0 ZB0
 have HGB : Hid (gs < gb) := HGB0.out
 have HWG : Hid (w.heap.size ≤ gb) := Nat.le_of_lt (Nat.lt_of_le_of_lt HGS.out HGB.out)
 clear hgb HGB0 B1 K1
 generalize w1.alloc (.cells #[.pointer none, .slice none 0 0] 75) = w2 at *
 have DYa0 : Hid (Below w.heap.size w w2.drew) := B2.out.drew
 have KYa0 : Hid (Blk w2.drew gs #[.int .i64 (kn : Int), .int .i64 (hn : Int), .int .i64 (mn : Int), .slice Ab nb cb, .int .i64 (fn : Int), .slice Ac nc cc, .slice Af nf cf, .slice As ns cs] 38) := K2.out
 have SYa0 : Hid (w2.drew.cell? ⟨gs, 0, none⟩ = some (.int .i64 (kn : Int)) ∧ w2.drew.cell? ⟨gs, 1, none⟩ = some (.int .i64 (hn : Int)) ∧ w2.drew.cell? ⟨gs, 2, none⟩ = some (.int .i64 (mn : Int)) ∧ w2.drew.cell? ⟨gs, 3, none⟩ = some (.slice Ab nb cb)) := ⟨KYa0.out.cell 0 _ rfl, KYa0.out.cell 1 _ rfl, KYa0.out.cell 2 _ rfl, KYa0.out.cell 3 _ rfl⟩
 have LYa0 : Hid (BldB gb ByteArray.empty w2.drew) := LB.out
 have ZYa0 : Hid (gb ≤ w2.drew.heap.size) := ZB0.out
 refine wp_region_until (fun w' => w'.cell? ⟨gs, 0, none⟩ = some (.int .i64 (kn : Int)) ∧ w'.cell? ⟨gs, 1, none⟩ = some (.int .i64 (hn : Int)) ∧ w'.cell? ⟨gs, 2, none⟩ = some (.int .i64 (mn : Int)) ∧ w'.cell? ⟨gs, 3, none⟩ = some (.slice Ab nb cb)) (fun _ => false) 17 (by rfl) (by kernel_rfl) ?_
 clear B2 K2 LB ZB0
 generalize w2.drew = Ya0 at *
 refine tKf 0 SYa0.out ?_
 refine tKf 1 SYa0.out ?_
 refine tKf 3 SYa0.out ?_
 refine tKf 4 SYa0.out ?_
 refine tKf 7 SYa0.out ?_
 refine tKf 8 SYa0.out ?_
 refine tKf 11 SYa0.out ?_
 refine tKf 12 SYa0.out ?_
 refine tKf 13 SYa0.out ?_
 refine uNe 2 (fun K hK => ?_)
 go_simp
 refine (cK _).mono ?_
 rintro e Ya1 ⟨rfl, hb⟩
 have DYa1 : Hid (Below w.heap.size w Ya1) := DYa0.out.trans (hb.mono DYa0.out.size)
 have KYa1 := Hid.mk (KYa0.out.on hb KYa0.out.lt)
 have LYa1 := Hid.mk (LYa0.out.on hb)
 have ZYa1 : Hid (gb ≤ Ya1.heap.size) := Nat.le_trans ZYa0.out hb.size
 clear hb SYa0 DYa0 KYa0 LYa0 ZYa0
 go_wp2_with fail
 refine hK.out _ _ (fun _ _ => ⟨KYa1.out.cell 0 _ rfl, KYa1.out.cell 1 _ rfl, KYa1.out.cell 2 _ rfl, KYa1.out.cell 3 _ rfl⟩) ?_
 clear hK K
 try simp only [Act.put, zQ1, zQ2, zQ3]
 refine uNe 5 (fun K hK => ?_)
 go_simp
 refine (cH _).mono ?_
 rintro e Ya2 ⟨rfl, hb⟩
 have DYa2 : Hid (Below w.heap.size w Ya2) := DYa1.out.trans (hb.mono DYa1.out.size)
 have KYa2 := Hid.mk (KYa1.out.on hb KYa1.out.lt)
 have LYa2 := Hid.mk (LYa1.out.on hb)
 have ZYa2 : Hid (gb ≤ Ya2.heap.size) := Nat.le_trans ZYa1.out hb.size
 clear hb DYa1 KYa1 LYa1 ZYa1
 go_wp2_with fail
 refine hK.out _ _ (fun _ _ => ⟨KYa2.out.cell 0 _ rfl, KYa2.out.cell 1 _ rfl, KYa2.out.cell 2 _ rfl, KYa2.out.cell 3 _ rfl⟩) ?_
 clear hK K
 try simp only [Act.put, zQ1, zQ2, zQ3]
 refine pUf 6 ?_
 refine uNe 9 (fun K hK => ?_)
 go_simp
 refine (cM _).mono ?_
 rintro e Ya3 ⟨rfl, hb⟩
 have DYa3 : Hid (Below w.heap.size w Ya3) := DYa2.out.trans (hb.mono DYa2.out.size)
 have KYa3 := Hid.mk (KYa2.out.on hb KYa2.out.lt)
 have LYa3 := Hid.mk (LYa2.out.on hb)
 have ZYa3 : Hid (gb ≤ Ya3.heap.size) := Nat.le_trans ZYa2.out hb.size
 clear hb DYa2 KYa2 LYa2 ZYa2
 go_wp2_with fail
 refine hK.out _ _ (fun _ _ => ⟨KYa3.out.cell 0 _ rfl, KYa3.out.cell 1 _ rfl, KYa3.out.cell 2 _ rfl, KYa3.out.cell 3 _ rfl⟩) ?_
 clear hK K
 try simp only [Act.put, zQ1, zQ2, zQ3]
 refine pUf 10 ?_
 refine uNe 14 (fun K hK => ?_)
 go_simp
 refine (cN _).mono ?_
 rintro e Ya4 ⟨rfl, hb⟩
 have DYa4 : Hid (Below w.heap.size w Ya4) := DYa3.out.trans (hb.mono DYa3.out.size)
 have KYa4 := Hid.mk (KYa3.out.on hb KYa3.out.lt)
 have LYa4 := Hid.mk (LYa3.out.on hb)
 have ZYa4 : Hid (gb ≤ Ya4.heap.size) := Nat.le_trans ZYa3.out hb.size
 clear hb DYa3 KYa3 LYa3 ZYa3
 go_wp2_with fail
 refine hK.out _ _ (fun _ _ => ⟨KYa4.out.cell 0 _ rfl, KYa4.out.cell 1 _ rfl, KYa4.out.cell 2 _ rfl, KYa4.out.cell 3 _ rfl⟩) ?_
 clear hK K
 try simp only [Act.put, zQ1, zQ2, zQ3]
 refine pUf 15 ?_
 refine uNe 16 (fun K hK => ?_)
 go_simp
 refine (bldWriteB gb (ByteArray.empty) (t0 ++ t1 ++ t2 ++ t3) Ya4 LYa4.out HLEN.out ZYa4.out).mono ?_
 rintro e Ya5 ⟨rfl, hL, hb, ho⟩
 have DYa5 : Hid (Below w.heap.size w Ya5) := DYa4.out.trans (hb.mono HWG.out)
 have KYa5 := Hid.mk (KYa4.out.on hb HGB.out)
 have LYa5 : Hid (BldB gb (im1 x ++ catT bkT (x.bks.take 0)) Ya5) := by have h := hL; rw [HIa.out] at h; exact h
 have ZYa5 : Hid (gb ≤ Ya5.heap.size) := Nat.le_trans ZYa4.out hb.size
 clear hb hL ho DYa4 KYa4 LYa4 ZYa4
 go_wp2_with fail
 refine hK.out _ _ (fun _ _ => ⟨KYa5.out.cell 0 _ rfl, KYa5.out.cell 1 _ rfl, KYa5.out.cell 2 _ rfl, KYa5.out.cell 3 _ rfl⟩) ?_
 clear hK K
 try simp only [Act.put, zQ1, zQ2, zQ3]
 refine until_done (by kernel_rfl) ?_ _
 have kb3 := KYa5.out.cell 3 _ rfl
 clear p1 p2 p3 HLEN HIa
 go_wp2_with fail
 clear kb3
 go_loopw [33] (fun v33 wr => ∃ k : Nat, k ≤ nb ∧ v33 = .int .i64 (k : Int) ∧ Below w.heap.size w wr ∧ Blk wr gs #[.int .i64 (kn : Int), .int .i64 (hn : Int), .int .i64 (mn : Int), .slice Ab nb cb, .int .i64 (fn : Int), .slice Ac nc cc, .slice Af nf cf, .slice As ns cs] 38 ∧ BldB gb (im1 x ++ catT bkT (x.bks.take k)) wr ∧ gb ≤ wr.heap.size) (fun i _ => nb - (intOf i).toNat)
 case atStart => exact ⟨0, by omega, rfl, DYa5.out, KYa5.out, LYa5.out, ZYa5.out⟩
 case round =>
  obtain ⟨k, hk, rfl, hb, hkb, hlb, hzb⟩ := hrel
  have HB1 : Hid (Below w.heap.size w wr) := hb
  have HK1 := Hid.mk hkb
  have HL1 := Hid.mk hlb
  have HZ1 := Hid.mk hzb
  clear hb hkb hlb hzb DYa5 KYa5 LYa5 ZYa5
  by_cases hlt : k < nb
  ·have q4 : (k : Int) < (nb : Int) := by omega
   obtain ⟨g, off, rfl, hg, f1, f2⟩ := HLB.out k (by have := HNN.out.1; omega)
   have HG : Hid (g < w.heap.size) := Nat.lt_of_lt_of_le hg HB.out
   obtain ⟨⟨t1', t2'⟩, t3', t4'⟩ := HBK.out k (by have := HNN.out.1; omega)
   obtain ⟨tn, htn⟩ : ∃ n : Nat, (x.bks.getD k default).t = (n : Int) := ⟨_, (Int.toNat_of_nonneg t1').symm⟩
   obtain ⟨vn, hvn⟩ : ∃ n : Nat, (x.bks.getD k default).v = (n : Int) := ⟨_, (Int.toNat_of_nonneg t3').symm⟩
   rw [htn] at f1 t2'
   rw [hvn] at f2 t4'
   have g1 := (HB1.out.cell (p := ⟨g, off + k * 2, none⟩) HG.out).trans f1
   have g2 := (HB1.out.cell (p := ⟨g, off + k * 2 + 1, none⟩) HG.out).trans f2
   have HI : Hid (im1 x ++ catT bkT (x.bks.take k) ++ (txt (vF 6 tn) ++ txt (vF 6 vn)) = im1 x ++ catT bkT (x.bks.take (k + 1))) := by
    unfold Hid
    rw [catT_snoc bkT x.bks k (by have := HNN.out.1; omega)]
    unfold bkT vT
    rw [htn, hvn]
    simp only [Int.toNat_natCast, ByteArray.append_assoc]
   have cA := fun wx => impl_var tn wx (by omega)
   have cB := fun wx => impl_var vn wx (by omega)
   have y1 : (txt (vF 6 tn)).size ≤ 7 := by rw [txt_size]; exact vF_length 6 _
   have y2 : (txt (vF 6 vn)).size ≤ 7 := by rw [txt_size]; exact vF_length 6 _
   have y3 : (im1 x ++ catT bkT (x.bks.take k)).size ≤ 1000 := by rw [ByteArray.size_append]; have := HZ.out.1; have := HBT.out k; omega
   clear htn hvn t1' t2' t3' t4' f1 f2 hg
   obtain ⟨tz, htz⟩ : ∃ tz, tz = im1 x ++ catT bkT (x.bks.take (k + 1)) := ⟨_, rfl⟩
   have HTZ : Hid (tz = im1 x ++ catT bkT (x.bks.take (k + 1))) := htz
   rw [← htz] at HI
   clear htz
   generalize im1 x ++ catT bkT (x.bks.take k) = tt at *
   generalize txt (vF 6 tn) = ta at *
   generalize txt (vF 6 vn) = tb at *
   have p1 : ¬ 9223372036854775807 < ta.size + tb.size := by omega
   have HLEN : Hid (tt.size + (ta ++ tb).size ≤ 100000000) := by unfold Hid; rw [ByteArray.size_append]; omega
   have hal := (Below.refl wr.heap.size wr).alloc (Nat.le_refl _) (.cells #[.int .i64 (tn : Int), .int .i64 (vn : Int)] 58)
   have TB := Hid.mk (Blk.new wr #[.int .i64 (tn : Int), .int .i64 (vn : Int)] 58)
   have HB2 := Hid.mk (HB1.out.trans (hal.mono HB1.out.size))
   have HK2 := Hid.mk (HK1.out.on hal HK1.out.lt)
   have HL2 := Hid.mk (HL1.out.on hal)
   have HZ2 : Hid (gb ≤ (wr.alloc (.cells #[.int .i64 (tn : Int), .int .i64 (vn : Int)] 58)).heap.size) := Nat.le_trans HZ1.out hal.size
   have HGT0 : Hid (gb < wr.heap.size) := HL1.out.lt
   clear hal
   go_wp2_with fail
   obtain ⟨gt, hgt⟩ : ∃ gt, gt = wr.heap.size := ⟨_, rfl⟩
   rw [← hgt]
   rw [← hgt] at TB HGT0
   have HGT : Hid (gb < gt) := HGT0.out
   clear hgt HGT0 g1 g2 HB1 HK1 HL1 HZ1
   generalize wr.alloc (.cells #[.int .i64 (tn : Int), .int .i64 (vn : Int)] 58) = V at *
   have DYb0 : Hid (Below w.heap.size w V.drew) := HB2.out.drew
   have KYb0 : Hid (Blk V.drew gs #[.int .i64 (kn : Int), .int .i64 (hn : Int), .int .i64 (mn : Int), .slice (some ⟨g, off, none⟩) nb cb, .int .i64 (fn : Int), .slice Ac nc cc, .slice Af nf cf, .slice As ns cs] 38) := HK2.out
   have TYb0 : Hid (Blk V.drew gt #[.int .i64 (tn : Int), .int .i64 (vn : Int)] 58) := TB.out
   have SYb0 : Hid (V.drew.cell? ⟨gt, 0, none⟩ = some (.int .i64 (tn : Int)) ∧ V.drew.cell? ⟨gt, 1, none⟩ = some (.int .i64 (vn : Int))) := ⟨TYb0.out.cell 0 _ rfl, TYb0.out.cell 1 _ rfl⟩
   have LYb0 : Hid (BldB gb tt V.drew) := HL2.out
   have ZYb0 : Hid (gb ≤ V.drew.heap.size) := HZ2.out
   refine wp_region_until (fun w' => w'.cell? ⟨gt, 0, none⟩ = some (.int .i64 (tn : Int)) ∧ w'.cell? ⟨gt, 1, none⟩ = some (.int .i64 (vn : Int))) (fun _ => false) 8 (by rfl) (by kernel_rfl) ?_
   clear HB2 HK2 HL2 HZ2 TB
   generalize V.drew = Yb0 at *
   refine tKf 0 SYb0.out ?_
   refine tKf 1 SYb0.out ?_
   refine tKf 3 SYb0.out ?_
   refine tKf 4 SYb0.out ?_
   refine uNe 2 (fun K hK => ?_)
   go_simp
   refine (cA _).mono ?_
   rintro e Yb1 ⟨rfl, hb⟩
   have DYb1 : Hid (Below w.heap.size w Yb1) := DYb0.out.trans (hb.mono DYb0.out.size)
   have KYb1 := Hid.mk (KYb0.out.on hb KYb0.out.lt)
   have LYb1 := Hid.mk (LYb0.out.on hb)
   have ZYb1 : Hid (gb ≤ Yb1.heap.size) := Nat.le_trans ZYb0.out hb.size
   have TYb1 := Hid.mk (TYb0.out.on hb TYb0.out.lt)
   clear hb SYb0 DYb0 KYb0 LYb0 ZYb0 TYb0
   go_wp2_with fail
   refine hK.out _ _ (fun _ _ => ⟨TYb1.out.cell 0 _ rfl, TYb1.out.cell 1 _ rfl⟩) ?_
   clear hK K
   try simp only [Act.put, zQ1, zQ2, zQ3]
   refine uNe 5 (fun K hK => ?_)
   go_simp
   refine (cB _).mono ?_
   rintro e Yb2 ⟨rfl, hb⟩
   have DYb2 : Hid (Below w.heap.size w Yb2) := DYb1.out.trans (hb.mono DYb1.out.size)
   have KYb2 := Hid.mk (KYb1.out.on hb KYb1.out.lt)
   have LYb2 := Hid.mk (LYb1.out.on hb)
   have ZYb2 : Hid (gb ≤ Yb2.heap.size) := Nat.le_trans ZYb1.out hb.size
   have TYb2 := Hid.mk (TYb1.out.on hb TYb1.out.lt)
   clear hb DYb1 KYb1 LYb1 ZYb1 TYb1
   go_wp2_with fail
   refine hK.out _ _ (fun _ _ => ⟨TYb2.out.cell 0 _ rfl, TYb2.out.cell 1 _ rfl⟩) ?_
   clear hK K
   try simp only [Act.put, zQ1, zQ2, zQ3]
   refine pUf 6 ?_
   refine uNe 7 (fun K hK => ?_)
   go_simp
   refine (bldWriteB gb (tt) (ta ++ tb) Yb2 LYb2.out HLEN.out ZYb2.out).mono ?_
   rintro e Yb3 ⟨rfl, hL, hb, ho⟩
   have DYb3 : Hid (Below w.heap.size w Yb3) := DYb2.out.trans (hb.mono HWG.out)
   have KYb3 := Hid.mk (KYb2.out.on hb HGB.out)
   have LYb3 : Hid (BldB gb (tz) Yb3) := by have h := hL; rw [HI.out] at h; exact h
   have ZYb3 : Hid (gb ≤ Yb3.heap.size) := Nat.le_trans ZYb2.out hb.size
   have TYb3 : Hid (Blk Yb3 gt #[.int .i64 (tn : Int), .int .i64 (vn : Int)] 58) := ho gt _ TYb2.out (fun e => by have := HGT.out; injection e; omega) (fun c fz e => by injection e with _ e2; cases e2)
   clear hb hL ho DYb2 KYb2 LYb2 ZYb2 TYb2
   go_wp2_with fail
   refine hK.out _ _ (fun _ _ => ⟨TYb3.out.cell 0 _ rfl, TYb3.out.cell 1 _ rfl⟩) ?_
   clear hK K
   try simp only [Act.put, zQ1, zQ2, zQ3]
   refine until_done (by kernel_rfl) ?_ _
   go_wp2_with fail
   go_roundw
   case rel => exact ⟨k + 1, by omega, by go_num, DYb3.out, KYb3.out, by rw [← HTZ.out]; exact LYb3.out, ZYb3.out⟩
   case measure => simp [intOf]; omega
  ·obtain rfl : k = nb := by omega
   have q4 : ¬ (k : Int) < (k : Int) := by omega
   rw [HAL.out.1] at HL1
   have y3 : (im1 x ++ catT bkT x.bks).size ≤ 1000 := by rw [← HAL.out.1, ByteArray.size_append]; have := HZ.out.1; have := HBT.out k; omega
   have cP := fun wx => implPiece (fileT x.eng.cache) wx (by have := HFT.out; omega)
   have y4 : (pcT (fileT x.eng.cache)).size ≤ 5011 := by have := pcT_size (fileT x.eng.cache); have := HFT.out; omega
   have HI : Hid (im1 x ++ catT bkT x.bks ++ (t4 ++ pcT (fileT x.eng.cache) ++ t5) = im1 x ++ catT bkT x.bks ++ im2 x) := by unfold Hid; rw [HI2.out]
   have y5 : (im1 x ++ catT bkT x.bks ++ im2 x).size ≤ 7000 := by rw [ByteArray.size_append]; have := HZ.out.2; omega
   have HH2 : Hid (im1 x ++ catT bkT x.bks ++ im2 x ++ catT pcT x.eng.files ++ vT (x.ses.length : Int) ++ catT seT x.ses = imT x) := rfl
   generalize hq1 : im1 x ++ catT bkT x.bks = tt at *
   generalize pcT (fileT x.eng.cache) = tp at *
   generalize fileT x.eng.cache = tf at *
   clear hq1
   have p1 : ¬ 9223372036854775807 < t4.size + tp.size := by omega
   have p2 : ¬ 9223372036854775807 < t4.size + tp.size + t5.size := by omega
   have HLEN : Hid (tt.size + (t4 ++ tp ++ t5).size ≤ 100000000) := by unfold Hid; simp only [ByteArray.size_append]; omega
   go_wp2_with fail
   have DYc0 : Hid (Below w.heap.size w wr.drew) := HB1.out.drew
   have KYc0 : Hid (Blk wr.drew gs #[.int .i64 (kn : Int), .int .i64 (hn : Int), .int .i64 (mn : Int), .slice Ab k cb, .int .i64 (fn : Int), .slice Ac nc cc, .slice Af nf cf, .slice As ns cs] 38) := HK1.out
   have SYc0 : Hid (wr.drew.cell? ⟨gs, 4, none⟩ = some (.int .i64 (fn : Int)) ∧ wr.drew.cell? ⟨gs, 5, none⟩ = some (.slice Ac nc cc) ∧ wr.drew.cell? ⟨gs, 6, none⟩ = some (.slice Af nf cf)) := ⟨KYc0.out.cell 4 _ rfl, KYc0.out.cell 5 _ rfl, KYc0.out.cell 6 _ rfl⟩
   have LYc0 : Hid (BldB gb tt wr.drew) := HL1.out
   have ZYc0 : Hid (gb ≤ wr.drew.heap.size) := HZ1.out
   refine wp_region_until (fun w' => w'.cell? ⟨gs, 4, none⟩ = some (.int .i64 (fn : Int)) ∧ w'.cell? ⟨gs, 5, none⟩ = some (.slice Ac nc cc) ∧ w'.cell? ⟨gs, 6, none⟩ = some (.slice Af nf cf)) (fun _ => false) 17 (by rfl) (by kernel_rfl) ?_
   clear HB1 HK1 HL1 HZ1
   generalize wr.drew = Yc0 at *
   refine tKf 0 SYc0.out ?_
   refine tKf 1 SYc0.out ?_
   refine tKf 2 SYc0.out ?_
   refine tKf 4 SYc0.out ?_
   refine tKf 5 SYc0.out ?_
   refine tKf 6 SYc0.out ?_
   refine tKf 10 SYc0.out ?_
   refine tKf 11 SYc0.out ?_
   refine tKf 12 SYc0.out ?_
   refine tKf 13 SYc0.out ?_
   refine uNe 3 (fun K hK => ?_)
   go_simp
   refine (cFl _).mono ?_
   rintro e Yc1 ⟨rfl, hb⟩
   have DYc1 : Hid (Below w.heap.size w Yc1) := DYc0.out.trans (hb.mono DYc0.out.size)
   have KYc1 := Hid.mk (KYc0.out.on hb KYc0.out.lt)
   have LYc1 := Hid.mk (LYc0.out.on hb)
   have ZYc1 : Hid (gb ≤ Yc1.heap.size) := Nat.le_trans ZYc0.out hb.size
   clear hb SYc0 DYc0 KYc0 LYc0 ZYc0
   go_wp2_with fail
   refine hK.out _ _ (fun _ _ => ⟨KYc1.out.cell 4 _ rfl, KYc1.out.cell 5 _ rfl, KYc1.out.cell 6 _ rfl⟩) ?_
   clear hK K
   try simp only [Act.put, zQ1, zQ2, zQ3]
   refine uNe 7 (fun K hK => ?_)
   go_simp
   refine (cF _ DYc1.out).mono ?_
   rintro e Yc2 ⟨rfl, hb⟩
   have DYc2 : Hid (Below w.heap.size w Yc2) := DYc1.out.trans (hb.mono DYc1.out.size)
   have KYc2 := Hid.mk (KYc1.out.on hb KYc1.out.lt)
   have LYc2 := Hid.mk (LYc1.out.on hb)
   have ZYc2 : Hid (gb ≤ Yc2.heap.size) := Nat.le_trans ZYc1.out hb.size
   clear hb DYc1 KYc1 LYc1 ZYc1
   go_wp2_with fail
   refine hK.out _ _ (fun _ _ => ⟨KYc2.out.cell 4 _ rfl, KYc2.out.cell 5 _ rfl, KYc2.out.cell 6 _ rfl⟩) ?_
   clear hK K
   try simp only [Act.put, zQ1, zQ2, zQ3]
   refine uNe 8 (fun K hK => ?_)
   go_simp
   refine (cP _).mono ?_
   rintro e Yc3 ⟨rfl, hb⟩
   have DYc3 : Hid (Below w.heap.size w Yc3) := DYc2.out.trans (hb.mono DYc2.out.size)
   have KYc3 := Hid.mk (KYc2.out.on hb KYc2.out.lt)
   have LYc3 := Hid.mk (LYc2.out.on hb)
   have ZYc3 : Hid (gb ≤ Yc3.heap.size) := Nat.le_trans ZYc2.out hb.size
   clear hb DYc2 KYc2 LYc2 ZYc2
   go_wp2_with fail
   refine hK.out _ _ (fun _ _ => ⟨KYc3.out.cell 4 _ rfl, KYc3.out.cell 5 _ rfl, KYc3.out.cell 6 _ rfl⟩) ?_
   clear hK K
   try simp only [Act.put, zQ1, zQ2, zQ3]
   refine pUf 9 ?_
   refine uNe 14 (fun K hK => ?_)
   go_simp
   refine (cNf _).mono ?_
   rintro e Yc4 ⟨rfl, hb⟩
   have DYc4 : Hid (Below w.heap.size w Yc4) := DYc3.out.trans (hb.mono DYc3.out.size)
   have KYc4 := Hid.mk (KYc3.out.on hb KYc3.out.lt)
   have LYc4 := Hid.mk (LYc3.out.on hb)
   have ZYc4 : Hid (gb ≤ Yc4.heap.size) := Nat.le_trans ZYc3.out hb.size
   clear hb DYc3 KYc3 LYc3 ZYc3
   go_wp2_with fail
   refine hK.out _ _ (fun _ _ => ⟨KYc4.out.cell 4 _ rfl, KYc4.out.cell 5 _ rfl, KYc4.out.cell 6 _ rfl⟩) ?_
   clear hK K
   try simp only [Act.put, zQ1, zQ2, zQ3]
   refine pUf 15 ?_
   refine uNe 16 (fun K hK => ?_)
   go_simp
   refine (bldWriteB gb (tt) (t4 ++ tp ++ t5) Yc4 LYc4.out HLEN.out ZYc4.out).mono ?_
   rintro e Yc5 ⟨rfl, hL, hb, ho⟩
   have DYc5 : Hid (Below w.heap.size w Yc5) := DYc4.out.trans (hb.mono HWG.out)
   have KYc5 := Hid.mk (KYc4.out.on hb HGB.out)
   have LYc5 : Hid (BldB gb (tt ++ im2 x) Yc5) := by have h := hL; rw [HI.out] at h; exact h
   have ZYc5 : Hid (gb ≤ Yc5.heap.size) := Nat.le_trans ZYc4.out hb.size
   clear hb hL ho DYc4 KYc4 LYc4 ZYc4
   go_wp2_with fail
   refine hK.out _ _ (fun _ _ => ⟨KYc5.out.cell 4 _ rfl, KYc5.out.cell 5 _ rfl, KYc5.out.cell 6 _ rfl⟩) ?_
   clear hK K
   try simp only [Act.put, zQ1, zQ2, zQ3]
   refine until_done (by kernel_rfl) ?_ _
   have kb6 := KYc5.out.cell 6 _ rfl
   clear p1 p2 HLEN
   go_wp2_with fail
   clear kb6
   go_loopw [67] (fun v67 wr => ∃ j : Nat, j ≤ nf ∧ v67 = .int .i64 (j : Int) ∧ Below w.heap.size w wr ∧ Blk wr gs #[.int .i64 (kn : Int), .int .i64 (hn : Int), .int .i64 (mn : Int), .slice Ab k cb, .int .i64 (fn : Int), .slice Ac nc cc, .slice Af nf cf, .slice As ns cs] 38 ∧ BldB gb (tt ++ im2 x ++ catT pcT (x.eng.files.take j)) wr ∧ gb ≤ wr.heap.size) (fun i _ => nf - (intOf i).toNat)
   case atStart => exact ⟨0, by omega, rfl, DYc5.out, KYc5.out, by have h := LYc5.out; simpa [catT] using h, ZYc5.out⟩
   case round =>
    obtain ⟨j, hj, rfl, hb, hkb, hlb, hzb⟩ := hrel
    have HB2 : Hid (Below w.heap.size w wr) := hb
    have HK2 := Hid.mk hkb
    have HL2 := Hid.mk hlb
    have HZ2 := Hid.mk hzb
    clear hb hkb hlb hzb DYc5 KYc5 LYc5 ZYc5
    by_cases hlt2 : j < nf
    ·have q5 : (j : Int) < (nf : Int) := by omega
     obtain ⟨g, off, rfl, hg, f1⟩ := HLF.out j (by have := HNN.out.2.2.1; omega)
     have hgw : g < w.heap.size := Nat.lt_of_lt_of_le hg HB.out
     have g1 := (HB2.out.cell (p := ⟨g, off + j, none⟩) hgw).trans f1
     have y6 := HFI.out _ (getD_in x.eng.files j (by have := HNN.out.2.2.1; omega))
     have HIj : Hid (tt ++ im2 x ++ catT pcT (x.eng.files.take j) ++ pcT (x.eng.files.getD j default) = tt ++ im2 x ++ catT pcT (x.eng.files.take (j + 1))) := by
      unfold Hid
      rw [catT_snoc pcT x.eng.files j (by have := HNN.out.2.2.1; omega)]
      simp only [ByteArray.append_assoc]
     have y7 : (tt ++ im2 x ++ catT pcT (x.eng.files.take j)).size ≤ 30000 := by rw [ByteArray.size_append]; have := HFS.out j; omega
     have y8 := pcT_size (x.eng.files.getD j default)
     generalize x.eng.files.getD j default = fi at *
     have cP2 := fun wx => implPiece fi wx (by omega)
     obtain ⟨tz, htz⟩ : ∃ tz, tz = tt ++ im2 x ++ catT pcT (x.eng.files.take (j + 1)) := ⟨_, rfl⟩
     have HTZ : Hid (tz = tt ++ im2 x ++ catT pcT (x.eng.files.take (j + 1))) := htz
     rw [← htz] at HIj
     clear htz
     generalize hq2 : tt ++ im2 x ++ catT pcT (x.eng.files.take j) = t7 at *
     generalize hq3 : pcT fi = t8 at *
     clear hq2 hq3 f1 hg hgw
     go_wp2_with fail
     refine (cP2 _).mono ?_
     rintro e Z1 ⟨rfl, hb⟩
     have DZ : Hid (Below w.heap.size w Z1) := HB2.out.trans (hb.mono HB2.out.size)
     have KZ := Hid.mk (HK2.out.on hb HK2.out.lt)
     have LZ := Hid.mk (HL2.out.on hb)
     have ZZ : Hid (gb ≤ Z1.heap.size) := Nat.le_trans HZ2.out hb.size
     clear hb g1 HB2 HK2 HL2 HZ2
     go_wp2_with fail
     refine (bldWriteB gb t7 t8 Z1 LZ.out (by omega) ZZ.out).mono ?_
     rintro e Z2 ⟨rfl, hL, hb, ho⟩
     have DW : Hid (Below w.heap.size w Z2) := DZ.out.trans (hb.mono HWG.out)
     have KW := Hid.mk (KZ.out.on hb HGB.out)
     have LW : Hid (BldB gb tz Z2) := by have h := hL; rw [HIj.out] at h; exact h
     have ZW : Hid (gb ≤ Z2.heap.size) := Nat.le_trans ZZ.out hb.size
     clear hb hL ho DZ KZ LZ ZZ
     go_wp2_with fail
     go_roundw
     case rel => exact ⟨j + 1, by omega, by go_num, DW.out, KW.out, by rw [← HTZ.out]; exact LW.out, ZW.out⟩
     case measure => simp [intOf]; omega
    ·obtain rfl : j = nf := by omega
     have q5 : ¬ (j : Int) < (j : Int) := by omega
     rw [HAL.out.2.1] at HL2
     have y7 : (tt ++ im2 x ++ catT pcT x.eng.files).size ≤ 30000 := by rw [ByteArray.size_append, ← HAL.out.2.1]; have := HFS.out j; omega
     have HH3 : Hid (tt ++ im2 x ++ catT pcT x.eng.files ++ t6 ++ catT seT x.ses = imT x) := by unfold Hid; rw [← HI3.out]; exact HH2.out
     generalize hq2 : tt ++ im2 x ++ catT pcT x.eng.files = t7 at *
     clear hq2
     have kb7 := HK2.out.cell 7 _ rfl
     go_wp2_with fail
     refine (cNs _).mono ?_
     rintro e Z1 ⟨rfl, hb⟩
     have DZ : Hid (Below w.heap.size w Z1) := HB2.out.trans (hb.mono HB2.out.size)
     have KZ := Hid.mk (HK2.out.on hb HK2.out.lt)
     have LZ := Hid.mk (HL2.out.on hb)
     have ZZ : Hid (gb ≤ Z1.heap.size) := Nat.le_trans HZ2.out hb.size
     clear hb kb7 HB2 HK2 HL2 HZ2
     go_wp2_with fail
     refine (bldWriteB gb t7 t6 Z1 LZ.out (by omega) ZZ.out).mono ?_
     rintro e Z2 ⟨rfl, hL, hb, ho⟩
     have DW : Hid (Below w.heap.size w Z2) := DZ.out.trans (hb.mono HWG.out)
     have KW := Hid.mk (KZ.out.on hb HGB.out)
     have LW := Hid.mk hL
     have ZW : Hid (gb ≤ Z2.heap.size) := Nat.le_trans ZZ.out hb.size
     clear hb hL ho DZ KZ LZ ZZ
     have kb7 := KW.out.cell 7 _ rfl
     go_wp2_with fail
     clear kb7
     go_loopw [83] (fun v83 wr => ∃ i : Nat, i ≤ ns ∧ v83 = .int .i64 (i : Int) ∧ Below w.heap.size w wr ∧ Blk wr gs #[.int .i64 (kn : Int), .int .i64 (hn : Int), .int .i64 (mn : Int), .slice Ab k cb, .int .i64 (fn : Int), .slice Ac nc cc, .slice Af j cf, .slice As ns cs] 38 ∧ BldB gb (t7 ++ t6 ++ catT seT (x.ses.take i)) wr ∧ gb ≤ wr.heap.size) (fun i _ => ns - (intOf i).toNat)
     case atStart => exact ⟨0, by omega, rfl, DW.out, KW.out, by have h := LW.out; simpa [catT] using h, ZW.out⟩
     case round =>
      obtain ⟨i, hi, rfl, hb, hkb, hlb, hzb⟩ := hrel
      have HB3 : Hid (Below w.heap.size w wr) := hb
      have HK3 := Hid.mk hkb
      have HL3 := Hid.mk hlb
      have HZ3 := Hid.mk hzb
      clear hb hkb hlb hzb DW KW LW ZW
      by_cases hlt3 : i < ns
      ·have q6 : (i : Int) < (ns : Int) := by omega
       obtain ⟨g, off, rfl, hg, f1, f2, f3, f4, f5, f6⟩ := HLS.out i (by have := HNN.out.2.2.2; omega)
       have HG : Hid (g < w.heap.size) := Nat.lt_of_lt_of_le hg HB.out
       obtain ⟨⟨c1, c2⟩, ⟨c3, c4⟩, c5⟩ := HSE.out i (by have := HNN.out.2.2.2; omega)
       have HIi : Hid (t7 ++ t6 ++ catT seT (x.ses.take i) ++ (vT (x.ses.getD i default).client ++ vT (x.ses.getD i default).serial ++ pcT (ansT (x.ses.getD i default).ans)) = t7 ++ t6 ++ catT seT (x.ses.take (i + 1))) := by
        unfold Hid
        rw [catT_snoc seT x.ses i (by have := HNN.out.2.2.2; omega)]
        unfold seT
        simp only [ByteArray.append_assoc]
       have y9 : (t7 ++ t6 ++ catT seT (x.ses.take i)).size ≤ 40000 := by rw [ByteArray.size_append, ByteArray.size_append]; have := HST.out i; omega
       generalize x.ses.getD i default = se at *
       obtain ⟨sc, sr, ak, ai, am, ad⟩ := se
       simp only at *
       obtain ⟨cn, rfl⟩ : ∃ n : Nat, sc = (n : Int) := ⟨_, (Int.toNat_of_nonneg c1).symm⟩
       obtain ⟨rn, rfl⟩ : ∃ n : Nat, sr = (n : Int) := ⟨_, (Int.toNat_of_nonneg c3).symm⟩
       have g1 := (HB3.out.cell (p := ⟨g, off + i * 6, none⟩) HG.out).trans f1
       have g2 := (HB3.out.cell (p := ⟨g, off + i * 6 + 1, none⟩) HG.out).trans f2
       have g3 := (HB3.out.cell (p := ⟨g, off + i * 6 + 2, none⟩) HG.out).trans f3
       have g4 := (HB3.out.cell (p := ⟨g, off + i * 6 + 3, none⟩) HG.out).trans f4
       have g5 := (HB3.out.cell (p := ⟨g, off + i * 6 + 4, none⟩) HG.out).trans f5
       have g6 := (HB3.out.cell (p := ⟨g, off + i * 6 + 5, none⟩) HG.out).trans f6
       have e1 : vT (cn : Int) = txt (vF 6 cn) := by unfold vT; rw [Int.toNat_natCast]
       have e2 : vT (rn : Int) = txt (vF 6 rn) := by unfold vT; rw [Int.toNat_natCast]
       rw [e1, e2] at HIi
       clear e1 e2 f1 f2 f3 f4 f5 f6 hg
       have hd : (Ses.ans ⟨(cn : Int), (rn : Int), ak, ai, am, ad⟩).data.size ≤ 900 := (ansOk_in c5).2.2.2
       have cS := fun wx => implShowAnswer (Ses.ans ⟨(cn : Int), (rn : Int), ak, ai, am, ad⟩) wx (by unfold maxLen; omega)
       have z1 := ansT_size (Ses.ans ⟨(cn : Int), (rn : Int), ak, ai, am, ad⟩)
       have z2 := pcT_size (ansT (Ses.ans ⟨(cn : Int), (rn : Int), ak, ai, am, ad⟩))
       unfold Ses.ans at *
       unfold vAns at cS
       simp only at cS hd
       generalize ansT ⟨ak, ai, am, ad⟩ = ta at *
       have cP3 := fun wx => implPiece ta wx (by omega)
       have cA := fun wx => impl_var cn wx (by omega)
       have cB := fun wx => impl_var rn wx (by omega)
       have y1 : (txt (vF 6 cn)).size ≤ 7 := by rw [txt_size]; exact vF_length 6 _
       have y2 : (txt (vF 6 rn)).size ≤ 7 := by rw [txt_size]; exact vF_length 6 _
       obtain ⟨tz, htz⟩ : ∃ tz, tz = t7 ++ t6 ++ catT seT (x.ses.take (i + 1)) := ⟨_, rfl⟩
       have HTZ : Hid (tz = t7 ++ t6 ++ catT seT (x.ses.take (i + 1))) := htz
       rw [← htz] at HIi
       clear htz
       generalize hq4 : t7 ++ t6 ++ catT seT (x.ses.take i) = u0 at *
       generalize txt (vF 6 cn) = u1 at *
       generalize txt (vF 6 rn) = u2 at *
       generalize hq5 : pcT ta = u3 at *
       clear hq4 hq5 c1 c2 c3 c4 c5
       have p5 : ¬ 9223372036854775807 < u1.size + u2.size := by omega
       have p6 : ¬ 9223372036854775807 < u1.size + u2.size + u3.size := by omega
       have HLEN : Hid (u0.size + (u1 ++ u2 ++ u3).size ≤ 100000000) := by unfold Hid; simp only [ByteArray.size_append]; omega
       have hal := (Below.refl wr.heap.size wr).alloc (Nat.le_refl _) (.cells #[.int .i64 (cn : Int), .int .i64 (rn : Int), .int .i64 ak, .int .i64 ai, .int .i64 am, .string ad] 53)
       have TB := Hid.mk (Blk.new wr #[.int .i64 (cn : Int), .int .i64 (rn : Int), .int .i64 ak, .int .i64 ai, .int .i64 am, .string ad] 53)
       have HB4 := Hid.mk (HB3.out.trans (hal.mono HB3.out.size))
       have HK4 := Hid.mk (HK3.out.on hal HK3.out.lt)
       have HL4 := Hid.mk (HL3.out.on hal)
       have HZ4 : Hid (gb ≤ (wr.alloc (.cells #[.int .i64 (cn : Int), .int .i64 (rn : Int), .int .i64 ak, .int .i64 ai, .int .i64 am, .string ad] 53)).heap.size) := Nat.le_trans HZ3.out hal.size
       have HGT0 : Hid (gb < wr.heap.size) := HL3.out.lt
       clear hal
       go_wp2_with fail
       obtain ⟨gt, hgt⟩ : ∃ gt, gt = wr.heap.size := ⟨_, rfl⟩
       rw [← hgt]
       rw [← hgt] at TB HGT0
       have HGT : Hid (gb < gt) := HGT0.out
       clear hgt HGT0 g1 g2 g3 g4 g5 g6 HB3 HK3 HL3 HZ3
       generalize wr.alloc (.cells #[.int .i64 (cn : Int), .int .i64 (rn : Int), .int .i64 ak, .int .i64 ai, .int .i64 am, .string ad] 53) = V at *
       have DYd0 : Hid (Below w.heap.size w V.drew) := HB4.out.drew
       have KYd0 : Hid (Blk V.drew gs #[.int .i64 (kn : Int), .int .i64 (hn : Int), .int .i64 (mn : Int), .slice Ab k cb, .int .i64 (fn : Int), .slice Ac nc cc, .slice Af j cf, .slice (some ⟨g, off, none⟩) ns cs] 38) := HK4.out
       have TYd0 : Hid (Blk V.drew gt #[.int .i64 (cn : Int), .int .i64 (rn : Int), .int .i64 ak, .int .i64 ai, .int .i64 am, .string ad] 53) := TB.out
       have SYd0 : Hid (V.drew.cell? ⟨gt, 0, none⟩ = some (.int .i64 (cn : Int)) ∧ V.drew.cell? ⟨gt, 1, none⟩ = some (.int .i64 (rn : Int)) ∧ V.drew.cell? ⟨gt, 2, none⟩ = some (.int .i64 ak) ∧ V.drew.cell? ⟨gt, 3, none⟩ = some (.int .i64 ai) ∧ V.drew.cell? ⟨gt, 4, none⟩ = some (.int .i64 am) ∧ V.drew.cell? ⟨gt, 5, none⟩ = some (.string ad)) := ⟨TYd0.out.cell 0 _ rfl, TYd0.out.cell 1 _ rfl, TYd0.out.cell 2 _ rfl, TYd0.out.cell 3 _ rfl, TYd0.out.cell 4 _ rfl, TYd0.out.cell 5 _ rfl⟩
       have LYd0 : Hid (BldB gb u0 V.drew) := HL4.out
       have ZYd0 : Hid (gb ≤ V.drew.heap.size) := HZ4.out
       refine wp_region_until (fun w' => w'.cell? ⟨gt, 0, none⟩ = some (.int .i64 (cn : Int)) ∧ w'.cell? ⟨gt, 1, none⟩ = some (.int .i64 (rn : Int)) ∧ w'.cell? ⟨gt, 2, none⟩ = some (.int .i64 ak) ∧ w'.cell? ⟨gt, 3, none⟩ = some (.int .i64 ai) ∧ w'.cell? ⟨gt, 4, none⟩ = some (.int .i64 am) ∧ w'.cell? ⟨gt, 5, none⟩ = some (.string ad)) (fun _ => false) 13 (by rfl) (by kernel_rfl) ?_
       clear HB4 HK4 HL4 HZ4 TB
       generalize V.drew = Yd0 at *
       refine tKf 0 SYd0.out ?_
       refine tKf 1 SYd0.out ?_
       refine tKf 3 SYd0.out ?_
       refine tKf 4 SYd0.out ?_
       refine tKf 7 SYd0.out ?_
       refine tKf 8 SYd0.out ?_
       refine uNe 2 (fun K hK => ?_)
       go_simp
       refine (cA _).mono ?_
       rintro e Yd1 ⟨rfl, hb⟩
       have DYd1 : Hid (Below w.heap.size w Yd1) := DYd0.out.trans (hb.mono DYd0.out.size)
       have KYd1 := Hid.mk (KYd0.out.on hb KYd0.out.lt)
       have LYd1 := Hid.mk (LYd0.out.on hb)
       have ZYd1 : Hid (gb ≤ Yd1.heap.size) := Nat.le_trans ZYd0.out hb.size
       have TYd1 := Hid.mk (TYd0.out.on hb TYd0.out.lt)
       clear hb SYd0 DYd0 KYd0 LYd0 ZYd0 TYd0
       go_wp2_with fail
       refine hK.out _ _ (fun _ _ => ⟨TYd1.out.cell 0 _ rfl, TYd1.out.cell 1 _ rfl, TYd1.out.cell 2 _ rfl, TYd1.out.cell 3 _ rfl, TYd1.out.cell 4 _ rfl, TYd1.out.cell 5 _ rfl⟩) ?_
       clear hK K
       try simp only [Act.put, zQ1, zQ2, zQ3]
       refine uNe 5 (fun K hK => ?_)
       go_simp
       refine (cB _).mono ?_
       rintro e Yd2 ⟨rfl, hb⟩
       have DYd2 : Hid (Below w.heap.size w Yd2) := DYd1.out.trans (hb.mono DYd1.out.size)
       have KYd2 := Hid.mk (KYd1.out.on hb KYd1.out.lt)
       have LYd2 := Hid.mk (LYd1.out.on hb)
       have ZYd2 : Hid (gb ≤ Yd2.heap.size) := Nat.le_trans ZYd1.out hb.size
       have TYd2 := Hid.mk (TYd1.out.on hb TYd1.out.lt)
       clear hb DYd1 KYd1 LYd1 ZYd1 TYd1
       go_wp2_with fail
       refine hK.out _ _ (fun _ _ => ⟨TYd2.out.cell 0 _ rfl, TYd2.out.cell 1 _ rfl, TYd2.out.cell 2 _ rfl, TYd2.out.cell 3 _ rfl, TYd2.out.cell 4 _ rfl, TYd2.out.cell 5 _ rfl⟩) ?_
       clear hK K
       try simp only [Act.put, zQ1, zQ2, zQ3]
       refine pUf 6 ?_
       refine uNe 9 (fun K hK => ?_)
       go_simp
       refine (cS _).mono ?_
       rintro e Yd3 ⟨rfl, hb⟩
       have DYd3 : Hid (Below w.heap.size w Yd3) := DYd2.out.trans (hb.mono DYd2.out.size)
       have KYd3 := Hid.mk (KYd2.out.on hb KYd2.out.lt)
       have LYd3 := Hid.mk (LYd2.out.on hb)
       have ZYd3 : Hid (gb ≤ Yd3.heap.size) := Nat.le_trans ZYd2.out hb.size
       have TYd3 := Hid.mk (TYd2.out.on hb TYd2.out.lt)
       clear hb DYd2 KYd2 LYd2 ZYd2 TYd2
       go_wp2_with fail
       refine hK.out _ _ (fun _ _ => ⟨TYd3.out.cell 0 _ rfl, TYd3.out.cell 1 _ rfl, TYd3.out.cell 2 _ rfl, TYd3.out.cell 3 _ rfl, TYd3.out.cell 4 _ rfl, TYd3.out.cell 5 _ rfl⟩) ?_
       clear hK K
       try simp only [Act.put, zQ1, zQ2, zQ3]
       refine uNe 10 (fun K hK => ?_)
       go_simp
       refine (cP3 _).mono ?_
       rintro e Yd4 ⟨rfl, hb⟩
       have DYd4 : Hid (Below w.heap.size w Yd4) := DYd3.out.trans (hb.mono DYd3.out.size)
       have KYd4 := Hid.mk (KYd3.out.on hb KYd3.out.lt)
       have LYd4 := Hid.mk (LYd3.out.on hb)
       have ZYd4 : Hid (gb ≤ Yd4.heap.size) := Nat.le_trans ZYd3.out hb.size
       have TYd4 := Hid.mk (TYd3.out.on hb TYd3.out.lt)
       clear hb DYd3 KYd3 LYd3 ZYd3 TYd3
       go_wp2_with fail
       refine hK.out _ _ (fun _ _ => ⟨TYd4.out.cell 0 _ rfl, TYd4.out.cell 1 _ rfl, TYd4.out.cell 2 _ rfl, TYd4.out.cell 3 _ rfl, TYd4.out.cell 4 _ rfl, TYd4.out.cell 5 _ rfl⟩) ?_
       clear hK K
       try simp only [Act.put, zQ1, zQ2, zQ3]
       refine pUf 11 ?_
       refine uNe 12 (fun K hK => ?_)
       go_simp
       refine (bldWriteB gb (u0) (u1 ++ u2 ++ u3) Yd4 LYd4.out HLEN.out ZYd4.out).mono ?_
       rintro e Yd5 ⟨rfl, hL, hb, ho⟩
       have DYd5 : Hid (Below w.heap.size w Yd5) := DYd4.out.trans (hb.mono HWG.out)
       have KYd5 := Hid.mk (KYd4.out.on hb HGB.out)
       have LYd5 : Hid (BldB gb (tz) Yd5) := by have h := hL; rw [HIi.out] at h; exact h
       have ZYd5 : Hid (gb ≤ Yd5.heap.size) := Nat.le_trans ZYd4.out hb.size
       have TYd5 : Hid (Blk Yd5 gt #[.int .i64 (cn : Int), .int .i64 (rn : Int), .int .i64 ak, .int .i64 ai, .int .i64 am, .string ad] 53) := ho gt _ TYd4.out (fun e => by have := HGT.out; injection e; omega) (fun c fz e => by injection e with _ e2; cases e2)
       clear hb hL ho DYd4 KYd4 LYd4 ZYd4 TYd4
       go_wp2_with fail
       refine hK.out _ _ (fun _ _ => ⟨TYd5.out.cell 0 _ rfl, TYd5.out.cell 1 _ rfl, TYd5.out.cell 2 _ rfl, TYd5.out.cell 3 _ rfl, TYd5.out.cell 4 _ rfl, TYd5.out.cell 5 _ rfl⟩) ?_
       clear hK K
       try simp only [Act.put, zQ1, zQ2, zQ3]
       refine until_done (by kernel_rfl) ?_ _
       go_wp2_with fail
       go_roundw
       case rel => exact ⟨i + 1, by omega, by go_num, DYd5.out, KYd5.out, by rw [← HTZ.out]; exact LYd5.out, ZYd5.out⟩
       case measure => simp [intOf]; omega
      ·obtain rfl : i = ns := by omega
       have q6 : ¬ (i : Int) < (i : Int) := by omega
       rw [HAL.out.2.2, HH3.out] at HL3
       go_wp2_with fail
       refine (bldStringB gb (imT x) wr HL3.out HZ3.out).mono ?_
       rintro e Z1 ⟨rfl, hb⟩
       have DZ : Hid (Below w.heap.size w Z1) := HB3.out.trans (hb.mono HWG.out)
       clear hb
       generalize imT x = tz at *
       go_wp2_with fail
       go_ret
       exact ⟨by rw [HE.out]; rfl, DZ.out⟩
end Go.Proofs.YthhamlahdjokkaaGreatDoor
namespace Go.Proofs.YthhamlahdjokkaaGreatDoor
open Go.ChangeShapes Go.WideShapes Go.ChangeAt Go.RowKit Go.PlainAid
set_option linter.unusedVariables false
def StFits (x : Sta) : Prop := x.bks.length ≤ maxLen ∧ EFits x.eng ∧ x.ses.length ≤ maxLen ∧ ∀ s ∈ x.ses, s.data.size ≤ maxLen
def wtSt (x : Sta) : Nat := x.bks.length + wtE x.eng + (x.ses.length + wtQ x.ses)
theorem wtQ_mem (l : List Ses) : ∀ e ∈ l, e.data.size ≤ wtQ l := by
 induction l with
 | nil => intro e he; cases he
 | cons x r ih =>
  intro e he
  unfold wtQ wtQ1
  rcases List.mem_cons.1 he with rfl | h
  ·omega
  ·have := ih e h; omega
theorem StFits.short {x : Sta} (h : wtSt x ≤ 1048576) : StShort x := by
 unfold wtSt at h
 exact ⟨by omega, EFits.short (n := wtE x.eng) (Nat.le_refl _) (by omega), by omega, fun s hs => by have := wtQ_mem x.ses s hs; omega⟩
set_option maxHeartbeats 2000000 in
theorem szState (x : Sta) (v : Value) (left : Int) (w : World) (B : Nat) (hv : StaV w B v x) (hf : StFits x) (h0 : 0 ≤ left) (h1 : left ≤ 1048576) (hB : B ≤ w.heap.size) :
  Calls Tryz.prog 6 #[v, .int .i64 left] w fun b w' => ∃ r : Int, b = .returned (.int .i64 r) ∧ Hid (r = -1 ∨ 0 ≤ r ∧ r + (wtSt x : Int) = left) ∧ Below w.heap.size w w' := by
 obtain ⟨Ab, nb, cb, Ac, nc, cc, Af, nf, cf, As, ns, cs, rfl⟩ := hv.shape
 obtain ⟨hb0, he0, hs0⟩ := hv.parts
 have HB : Hid (B ≤ w.heap.size) := hB
 have HF : Hid (StFits x) := hf
 have LE : Hid (EngV w B (.agg #[.int .i64 x.eng.floor, .slice Ac nc cc, .slice Af nf cf]) x.eng) := he0
 have LQ : Hid (Lies w B 6 (.slice As ns cs) (sesR x.ses)) := hs0
 have HW : Hid (wtSt x = x.bks.length + wtE x.eng + (x.ses.length + wtQ x.ses)) := rfl
 unfold vSt
 generalize x.kind = sk at *
 generalize x.hold = sh at *
 generalize x.mark = sm at *
 generalize x.eng.floor = sf at *
 obtain ⟨X0, hX0⟩ : ∃ X0, X0 = w.alloc (.cells #[.int .i64 sk, .int .i64 sh, .int .i64 sm, .slice Ab nb cb, .int .i64 sf, .slice Ac nc cc, .slice Af nf cf, .slice As ns cs] 29) := ⟨_, rfl⟩
 have BX : Hid (Below w.heap.size w X0) := by unfold Hid; rw [hX0]; exact (Below.refl _ w).alloc (Nat.le_refl _) _
 have KX : Hid (Blk X0 w.heap.size #[.int .i64 sk, .int .i64 sh, .int .i64 sm, .slice Ab nb cb, .int .i64 sf, .slice Ac nc cc, .slice Af nf cf, .slice As ns cs] 29) := by unfold Hid; rw [hX0]; exact Blk.new w _ _
 have c1 := szBucketS x.bks _ left X0 B (hb0.on (BX.out.mono hB)) hf.1 h0 h1
 have k3 := KX.out.cell 3 _ rfl
 have k4 := KX.out.cell 4 _ rfl
 have k5 := KX.out.cell 5 _ rfl
 have k6 := KX.out.cell 6 _ rfl
 clear hv hb0 he0 hs0 hf hB
 generalize hnb : x.bks.length = NB at *
 go_enter Tryz.func6, Tryz.ntmps6
 go_wp2_with fail
 rw [← hX0]
 clear hX0
 refine c1.mono ?_
 rintro b X1 ⟨⟨r, rfl, hr⟩, rfl⟩
 rcases hr.out with rfl | ⟨hr0, hr1⟩
 ·go_wp2_with fail
  go_ret
  exact ⟨-1, rfl, .inl rfl, BX.out⟩
 have q1 : decide (r < 0) = false := decide_eq_false (by omega)
 have R1 : Hid (r + (NB : Int) = left) := hr1
 have q2 : r ≤ 1048576 := by omega
 have c2 := szEngine x.eng _ r X0 B (LE.out.on (BX.out.mono HB.out)) HF.out.2.1 hr0 q2 (Nat.le_trans HB.out BX.out.size)
 clear hr1 hr c1
 go_wp2_with fail
 refine c2.mono ?_
 rintro b X2 ⟨r2, rfl, hr2, hb2⟩
 have B2 : Hid (Below w.heap.size w X2) := BX.out.trans (hb2.mono BX.out.size)
 have m7 := (KX.out.on hb2 KX.out.lt).cell 7 _ rfl
 clear hb2 c2 k3 k4 k5 k6
 rcases hr2.out with rfl | ⟨hr20, hr21⟩
 ·go_wp2_with fail
  go_ret
  exact ⟨-1, rfl, .inl rfl, B2.out⟩
 have q3 : decide (r2 < 0) = false := decide_eq_false (by omega)
 have R2 : Hid (r2 + (wtE x.eng : Int) = r) := hr21
 have q4 : r2 ≤ 1048576 := by omega
 have c3 := szSessionS x.ses _ r2 X2 B (LQ.out.on (B2.out.mono HB.out)) HF.out.2.2.2 HF.out.2.2.1 hr20 q4 (Nat.le_trans HB.out B2.out.size)
 clear hr21 hr2
 go_wp2_with fail
 refine c3.mono ?_
 rintro b X3 ⟨r3, rfl, hr3, hb3⟩
 have B3 : Hid (Below w.heap.size w X3) := B2.out.trans (hb3.mono B2.out.size)
 clear hb3 c3 m7
 rcases hr3 with rfl | ⟨hr30, hr31⟩
 ·go_wp2_with fail
  go_ret
  exact ⟨-1, rfl, .inl rfl, B3.out⟩
 have q5 : decide (r3 < 0) = false := decide_eq_false (by omega)
 have R3 : Hid (r3 + ((x.ses.length + wtQ x.ses : Nat) : Int) = r2) := hr31
 clear hr31
 go_wp2_with fail
 go_ret
 exact ⟨r3, rfl, .inr ⟨hr30, by have := R1.out; have := R2.out; have := R3.out; rw [HW.out]; omega⟩, B3.out⟩
theorem StaO.parts {w : World} {base : Nat} {x : Sta} {vb vc vf vs : Value} (h : StaO w base (vSt x vb vc vf vs) x) : Owns w base 58 2 vb (ptR x.bks) ∧ EngO w base (.agg #[.int .i64 x.eng.floor, vc, vf]) x.eng ∧ Owns w base 53 6 vs (sesR x.ses) := by
 obtain ⟨vb', vc', vf', vs', L, e, h1, ⟨h2, h3, h4⟩, h5⟩ := h
 unfold vSt at e
 simp only [Value.agg.injEq, Array.mk.injEq, List.cons.injEq, true_and, and_true] at e
 obtain ⟨rfl, rfl, rfl, rfl⟩ := e
 exact ⟨h1, ⟨_, _, L, rfl, h2, h3, h4⟩, h5⟩
set_option maxHeartbeats 2000000 in
theorem eqState (x : Sta) (va vb : Value) (b1 b2 : Nat) (w : World) (ha : StaO w b1 va x) (hb : StaO w b2 vb x) (hs : StShort x) :
  Calls Tryz.prog 10 #[va, vb] w fun b w' => b = .returned (.bool true) ∧ Below w.heap.size w w' := by
 obtain ⟨Ab1, nb1, cb1, Ac1, nc1, cc1, Af1, nf1, cf1, As1, ns1, cs1, rfl⟩ := ha.shape
 obtain ⟨Ab2, nb2, cb2, Ac2, nc2, cc2, Af2, nf2, cf2, As2, ns2, cs2, rfl⟩ := hb.shape
 obtain ⟨p1, p2, p3⟩ := ha.parts
 obtain ⟨o1, o2, o3⟩ := hb.parts
 have HS : Hid (StShort x) := hs
 have P2 : Hid (EngO w b1 (.agg #[.int .i64 x.eng.floor, .slice Ac1 nc1 cc1, .slice Af1 nf1 cf1]) x.eng) := p2
 have O2 : Hid (EngO w b2 (.agg #[.int .i64 x.eng.floor, .slice Ac2 nc2 cc2, .slice Af2 nf2 cf2]) x.eng) := o2
 have P3 : Hid (Owns w b1 53 6 (.slice As1 ns1 cs1) (sesR x.ses)) := p3
 have O3 : Hid (Owns w b2 53 6 (.slice As2 ns2 cs2) (sesR x.ses)) := o3
 unfold vSt
 generalize x.kind = sk at *
 generalize x.hold = sh at *
 generalize x.mark = sm at *
 generalize x.eng.floor = sf at *
 obtain ⟨X0, hX0⟩ : ∃ X0, X0 = (w.alloc (.cells #[.int .i64 sk, .int .i64 sh, .int .i64 sm, .slice Ab1 nb1 cb1, .int .i64 sf, .slice Ac1 nc1 cc1, .slice Af1 nf1 cf1, .slice As1 ns1 cs1] 38)).alloc (.cells #[.int .i64 sk, .int .i64 sh, .int .i64 sm, .slice Ab2 nb2 cb2, .int .i64 sf, .slice Ac2 nc2 cc2, .slice Af2 nf2 cf2, .slice As2 ns2 cs2] 38) := ⟨_, rfl⟩
 have BX : Hid (Below w.heap.size w X0) := by unfold Hid; rw [hX0]; exact below_s2 _ _ _
 have K1 : Hid (Blk X0 w.heap.size #[.int .i64 sk, .int .i64 sh, .int .i64 sm, .slice Ab1 nb1 cb1, .int .i64 sf, .slice Ac1 nc1 cc1, .slice Af1 nf1 cf1, .slice As1 ns1 cs1] 38) := by unfold Hid; rw [hX0]; exact (Blk.new w _ _).alloc _
 have K2 : Hid (Blk X0 (w.heap.size + 1) #[.int .i64 sk, .int .i64 sh, .int .i64 sm, .slice Ab2 nb2 cb2, .int .i64 sf, .slice Ac2 nc2 cc2, .slice Af2 nf2 cf2, .slice As2 ns2 cs2] 38) := by
  unfold Hid
  rw [hX0]
  have := Blk.new (w.alloc (.cells #[.int .i64 sk, .int .i64 sh, .int .i64 sm, .slice Ab1 nb1 cb1, .int .i64 sf, .slice Ac1 nc1 cc1, .slice Af1 nf1 cf1, .slice As1 ns1 cs1] 38)) #[.int .i64 sk, .int .i64 sh, .int .i64 sm, .slice Ab2 nb2 cb2, .int .i64 sf, .slice Ac2 nc2 cc2, .slice Af2 nf2 cf2, .slice As2 ns2 cs2] 38
  rw [World.size_alloc] at this
  exact this
 have c1 := eqBucketS x.bks (.slice Ab1 nb1 cb1) (.slice Ab2 nb2 cb2) X0 w.heap.size (p1.lies.on BX.out) (o1.lies.on BX.out) HS.out.1 BX.out.size
 have a0 := K1.out.cell 0 _ rfl
 have d0 := K2.out.cell 0 _ rfl
 have a1 := K1.out.cell 1 _ rfl
 have d1 := K2.out.cell 1 _ rfl
 have a2 := K1.out.cell 2 _ rfl
 have d2 := K2.out.cell 2 _ rfl
 have a3 := K1.out.cell 3 _ rfl
 have d3 := K2.out.cell 3 _ rfl
 clear ha hb p1 p2 p3 o1 o2 o3 hs
 go_enter Tryz.func10, Tryz.ntmps10
 go_wp2_with fail
 rw [← hX0]
 clear hX0
 refine c1.mono ?_
 rintro b X1 ⟨rfl, hb1⟩
 have B1 : Hid (Below w.heap.size w X1) := BX.out.trans (hb1.mono BX.out.size)
 have G1 : Hid (Below X0.heap.size X0 X1) := hb1
 have L1 : Hid (Below w.heap.size w X1) := B1.out
 clear a0 a1 a2 a3 d0 d1 d2 d3 c1 hb1
 have KA := K1.out.on G1.out K1.out.lt
 have KB := K2.out.on G1.out K2.out.lt
 have a4 := KA.cell 4 _ rfl
 have a5 := KA.cell 5 _ rfl
 have a6 := KA.cell 6 _ rfl
 have d4 := KB.cell 4 _ rfl
 have d5 := KB.cell 5 _ rfl
 have d6 := KB.cell 6 _ rfl
 have c2 := eqEngine x.eng _ _ b1 b2 X1 (P2.out.on B1.out) (O2.out.on B1.out) HS.out.2.1
 clear KA KB
 go_wp2_with fail
 refine c2.mono ?_
 rintro b X2 ⟨rfl, hb2⟩
 have B2 : Hid (Below w.heap.size w X2) := B1.out.trans (hb2.mono B1.out.size)
 have G2 : Hid (Below X0.heap.size X0 X2) := G1.out.trans (hb2.mono G1.out.size)
 clear a4 a5 a6 d4 d5 d6 c2 hb2
 have a7 := (K1.out.on G2.out K1.out.lt).cell 7 _ rfl
 have d7 := (K2.out.on G2.out K2.out.lt).cell 7 _ rfl
 have c3 := eqSessionS x.ses (.slice As1 ns1 cs1) (.slice As2 ns2 cs2) X2 w.heap.size (P3.out.lies.on B2.out) (O3.out.lies.on B2.out) HS.out.2.2.1 B2.out.size
 go_wp2_with fail
 refine c3.mono ?_
 rintro b X3 ⟨rfl, hb3⟩
 have B3 : Hid (Below w.heap.size w X3) := B2.out.trans (hb3.mono B2.out.size)
 clear hb3 c3
 go_wp2_with fail
 go_ret
 exact ⟨rfl, B3.out⟩
end Go.Proofs.YthhamlahdjokkaaGreatDoor
namespace Go.Proofs.YthhamlahdjokkaaGreatDoor
open Go.ChangeShapes Go.WideShapes Go.ChangeAt Go.RowKit Go.PlainAid
set_option linter.unusedVariables false
set_option maxHeartbeats 8000000 in
theorem law_fnExactShowState (x : Sta) (v : Value) (w : World) (hv : StaV w w.heap.size v x) (hf : StFits x) (hi : True) (hst : SumTab w) (a0 a1 a2 : Addr) (he : Errs w a0 a1 a2) :
  Calls Tryz.prog 4 #[v] w fun b w' => b = .returned (.bool true) ∧ Below w.heap.size w w' := by
 obtain ⟨Ab, nb, cb, Ac, nc, cc, Af, nf, cf, As, ns, cs, rfl⟩ := hv.shape
 have HV0 : Hid (StaV w w.heap.size (vSt x (.slice Ab nb cb) (.slice Ac nc cc) (.slice Af nf cf) (.slice As ns cs)) x) := hv
 have HFits : Hid (StFits x) := hf
 have STb : Hid (SumTab w) := hst
 have ER : Hid (Errs w a0 a1 a2) := he
 clear hv hf hst he hi
 have HX : Hid (∀ vb vc vf vs, vSt x vb vc vf vs = .agg #[.int .i64 x.kind, .int .i64 x.hold, .int .i64 x.mark, vb, .int .i64 x.eng.floor, vc, vf, vs]) := fun _ _ _ _ => rfl
 rw [HX.out] at HV0 ⊢
 obtain ⟨sk, hsk⟩ : ∃ sk, x.kind = sk := ⟨_, rfl⟩
 obtain ⟨sh, hsh⟩ : ∃ sh, x.hold = sh := ⟨_, rfl⟩
 obtain ⟨sm, hsm⟩ : ∃ sm, x.mark = sm := ⟨_, rfl⟩
 obtain ⟨sf, hsf⟩ : ∃ sf, x.eng.floor = sf := ⟨_, rfl⟩
 rw [hsk, hsh, hsm, hsf] at HX HV0 ⊢
 clear hsk hsh hsm hsf
 have HV : Hid (StaV w w.heap.size (.agg #[.int .i64 sk, .int .i64 sh, .int .i64 sm, .slice Ab nb cb, .int .i64 sf, .slice Ac nc cc, .slice Af nf cf, .slice As ns cs]) x) := HV0.out
 clear HV0
 obtain ⟨X0, hX0⟩ : ∃ X0, X0 = w.alloc (.cells #[.int .i64 sk, .int .i64 sh, .int .i64 sm, .slice Ab nb cb, .int .i64 sf, .slice Ac nc cc, .slice Af nf cf, .slice As ns cs] 29) := ⟨_, rfl⟩
 have BX : Hid (Below w.heap.size w X0) := by unfold Hid; rw [hX0]; exact (Below.refl _ w).alloc (Nat.le_refl _) _
 have KX : Hid (Blk X0 w.heap.size #[.int .i64 sk, .int .i64 sh, .int .i64 sm, .slice Ab nb cb, .int .i64 sf, .slice Ac nc cc, .slice Af nf cf, .slice As ns cs] 29) := by unfold Hid; rw [hX0]; exact Blk.new w _ _
 have cz := szState x _ 1048576 X0 w.heap.size (HV.out.on BX.out) HFits.out (by omega) (by omega) BX.out.size
 have k0 := KX.out.cell 0 _ rfl
 have k1 := KX.out.cell 1 _ rfl
 have k2 := KX.out.cell 2 _ rfl
 have k3 := KX.out.cell 3 _ rfl
 have k4 := KX.out.cell 4 _ rfl
 have k5 := KX.out.cell 5 _ rfl
 have k6 := KX.out.cell 6 _ rfl
 have k7 := KX.out.cell 7 _ rfl
 go_enter Tryz.func4, Tryz.ntmps4
 go_wp2_with fail
 rw [← hX0]
 clear hX0
 refine cz.mono ?_
 rintro b X1 ⟨r, rfl, HR, hb1⟩
 have B1 : Hid (Below w.heap.size w X1) := BX.out.trans (hb1.mono BX.out.size)
 have K1 : Hid (Blk X1 w.heap.size #[.int .i64 sk, .int .i64 sh, .int .i64 sm, .slice Ab nb cb, .int .i64 sf, .slice Ac nc cc, .slice Af nf cf, .slice As ns cs] 29) := KX.out.on hb1 KX.out.lt
 clear hb1 cz k0 k1 k2 k3 k4 k5 k6 k7
 rcases HR.out with rfl | ⟨hr0, hr1⟩
 ·go_wp2_with fail
  go_ret
  exact ⟨rfl, B1.out⟩
 have hq : decide (r < 0) = false := decide_eq_false (by omega)
 have HSh : Hid (StShort x) := StFits.short (by omega)
 have k0 := K1.out.cell 0 _ rfl
 have k1 := K1.out.cell 1 _ rfl
 have k2 := K1.out.cell 2 _ rfl
 have k3 := K1.out.cell 3 _ rfl
 have k4 := K1.out.cell 4 _ rfl
 have k5 := K1.out.cell 5 _ rfl
 have k6 := K1.out.cell 6 _ rfl
 have k7 := K1.out.cell 7 _ rfl
 have c1 := toState x _ X1 w.heap.size (HV.out.on B1.out) HSh.out B1.out.size
 clear hr1
 go_wp2_with fail
 refine c1.mono ?_
 rintro b X2 ⟨⟨u2, rfl, hE2⟩, hb2⟩
 have c2 := specShowState x u2 X2 X2.heap.size hE2.view HSh.out (Nat.le_refl _)
 have B2 : Hid (Below w.heap.size w X2) := B1.out.trans (hb2.mono B1.out.size)
 have K2 : Hid (Blk X2 w.heap.size #[.int .i64 sk, .int .i64 sh, .int .i64 sm, .slice Ab nb cb, .int .i64 sf, .slice Ac nc cc, .slice Af nf cf, .slice As ns cs] 29) := K1.out.on hb2 K1.out.lt
 obtain ⟨Ab2, nb2, cb2, Ac2, nc2, cc2, Af2, nf2, cf2, As2, ns2, cs2, rfl⟩ := hE2.shape
 rw [HX.out] at c2 ⊢
 clear hb2 c1 k0 k1 k2 k3 k4 k5 k6 k7 K1 KX hE2
 go_wp2_with fail
 refine c2.mono ?_
 rintro b X3 ⟨rfl, hb3⟩
 have B3 : Hid (Below w.heap.size w X3) := B2.out.trans (hb3.mono B2.out.size)
 have K3 : Hid (Blk X3 w.heap.size #[.int .i64 sk, .int .i64 sh, .int .i64 sm, .slice Ab nb cb, .int .i64 sf, .slice Ac nc cc, .slice Af nf cf, .slice As ns cs] 29) := K2.out.on hb3 K2.out.lt
 clear hb3 c2 K2
 have k0 := K3.out.cell 0 _ rfl
 have k1 := K3.out.cell 1 _ rfl
 have k2 := K3.out.cell 2 _ rfl
 have k3 := K3.out.cell 3 _ rfl
 have k4 := K3.out.cell 4 _ rfl
 have k5 := K3.out.cell 5 _ rfl
 have k6 := K3.out.cell 6 _ rfl
 have k7 := K3.out.cell 7 _ rfl
 have c1 := toState x _ X3 w.heap.size (HV.out.on B3.out) HSh.out B3.out.size
 go_wp2_with fail
 refine c1.mono ?_
 rintro b X4 ⟨⟨u4, rfl, hE4⟩, hb4⟩
 have C4 : Hid (Below X3.heap.size X3 X4) := hb4
 obtain ⟨Ab4, nb4, cb4, Ac4, nc4, cc4, Af4, nf4, cf4, As4, ns4, cs4, rfl⟩ := hE4.shape
 rw [HX.out] at hE4 ⊢
 have HE4 : Hid (StaO X4 X3.heap.size (.agg #[.int .i64 sk, .int .i64 sh, .int .i64 sm, .slice Ab4 nb4 cb4, .int .i64 sf, .slice Ac4 nc4 cc4, .slice Af4 nf4 cf4, .slice As4 ns4 cs4]) x) := hE4
 clear hb4 c1 k0 k1 k2 k3 k4 k5 k6 k7 hE4
 obtain ⟨X5, hX5⟩ : ∃ X5, X5 = X4.alloc (.cells #[.int .i64 sk, .int .i64 sh, .int .i64 sm, .slice Ab4 nb4 cb4, .int .i64 sf, .slice Ac4 nc4 cc4, .slice Af4 nf4 cf4, .slice As4 ns4 cs4] 38) := ⟨_, rfl⟩
 have KB : Hid (Blk X5 X4.heap.size #[.int .i64 sk, .int .i64 sh, .int .i64 sm, .slice Ab4 nb4 cb4, .int .i64 sf, .slice Ac4 nc4 cc4, .slice Af4 nf4 cf4, .slice As4 ns4 cs4] 38) := by unfold Hid; rw [hX5]; exact Blk.new X4 _ _
 have C5 : Hid (Below X3.heap.size X3 X5) := by unfold Hid; rw [hX5]; exact C4.out.alloc C4.out.size _
 have D5 : Hid (Below X4.heap.size X4 X5) := by unfold Hid; rw [hX5]; exact (Below.refl _ X4).alloc (Nat.le_refl _) _
 have B5 : Hid (Below w.heap.size w X5) := B3.out.trans (C5.out.mono B3.out.size)
 have E5 : Hid (StaO X5 X3.heap.size (.agg #[.int .i64 sk, .int .i64 sh, .int .i64 sm, .slice Ab4 nb4 cb4, .int .i64 sf, .slice Ac4 nc4 cc4, .slice Af4 nf4 cf4, .slice As4 ns4 cs4]) x) := HE4.out.on D5.out
 have c2 := implShowState x _ X5 X5.heap.size E5.out.view HSh.out (Nat.le_refl _) (STb.out.on B5.out) a0 a1 a2 (ER.out.on B5.out)
 have kb0 := KB.out.cell 0 _ rfl
 have kb1 := KB.out.cell 1 _ rfl
 have kb2 := KB.out.cell 2 _ rfl
 have kb3 := KB.out.cell 3 _ rfl
 have kb4 := KB.out.cell 4 _ rfl
 have kb5 := KB.out.cell 5 _ rfl
 have kb6 := KB.out.cell 6 _ rfl
 have kb7 := KB.out.cell 7 _ rfl
 rw [hX5] at kb0 kb1 kb2 kb3 kb4 kb5 kb6 kb7
 go_wp2_with fail
 rw [← hX5]
 clear hX5 kb0 kb1 kb2 kb3 kb4 kb5 kb6 kb7
 refine c2.mono ?_
 rintro b X6 ⟨rfl, hb6⟩
 have C6 : Hid (Below X3.heap.size X3 X6) := C5.out.trans (hb6.mono C5.out.size)
 have D6 : Hid (Below X5.heap.size X5 X6) := hb6
 clear hb6 c2
 generalize staT x = bo at *
 go_wp2_with fail
 refine wp_region_until (fun w' => (w'.cell? ⟨X4.heap.size, 0, none⟩ = some (.int .i64 sk) ∧ w'.cell? ⟨X4.heap.size, 1, none⟩ = some (.int .i64 sh) ∧ w'.cell? ⟨X4.heap.size, 2, none⟩ = some (.int .i64 sm) ∧ w'.cell? ⟨X4.heap.size, 3, none⟩ = some (.slice Ab4 nb4 cb4) ∧ w'.cell? ⟨X4.heap.size, 4, none⟩ = some (.int .i64 sf) ∧ w'.cell? ⟨X4.heap.size, 5, none⟩ = some (.slice Ac4 nc4 cc4) ∧ w'.cell? ⟨X4.heap.size, 6, none⟩ = some (.slice Af4 nf4 cf4) ∧ w'.cell? ⟨X4.heap.size, 7, none⟩ = some (.slice As4 ns4 cs4)) ∧ w'.cell? ⟨w.heap.size, 0, none⟩ = some (.int .i64 sk) ∧ w'.cell? ⟨w.heap.size, 1, none⟩ = some (.int .i64 sh) ∧ w'.cell? ⟨w.heap.size, 2, none⟩ = some (.int .i64 sm) ∧ w'.cell? ⟨w.heap.size, 3, none⟩ = some (.slice Ab nb cb) ∧ w'.cell? ⟨w.heap.size, 4, none⟩ = some (.int .i64 sf) ∧ w'.cell? ⟨w.heap.size, 5, none⟩ = some (.slice Ac nc cc) ∧ w'.cell? ⟨w.heap.size, 6, none⟩ = some (.slice Af nf cf) ∧ w'.cell? ⟨w.heap.size, 7, none⟩ = some (.slice As ns cs)) (fun _ => false) 5 (by rfl) (by kernel_rfl) ?_
 have hbd : Below X6.heap.size X6 X6.drew := (Below.refl _ _).drew
 generalize X6.drew = XD at *
 have CD : Hid (Below X3.heap.size X3 XD) := C6.out.trans (hbd.mono C6.out.size)
 have DD : Hid (Below X5.heap.size X5 XD) := D6.out.trans (hbd.mono D6.out.size)
 have BD : Hid (Below w.heap.size w XD) := B3.out.trans (CD.out.mono B3.out.size)
 have KBa : Hid (Blk XD X4.heap.size #[.int .i64 sk, .int .i64 sh, .int .i64 sm, .slice Ab4 nb4 cb4, .int .i64 sf, .slice Ac4 nc4 cc4, .slice Af4 nf4 cf4, .slice As4 ns4 cs4] 38) := KB.out.on DD.out KB.out.lt
 have KAa : Hid (Blk XD w.heap.size #[.int .i64 sk, .int .i64 sh, .int .i64 sm, .slice Ab nb cb, .int .i64 sf, .slice Ac nc cc, .slice Af nf cf, .slice As ns cs] 29) := K3.out.on CD.out K3.out.lt
 have S0 : Hid ((fun w' => (w'.cell? ⟨X4.heap.size, 0, none⟩ = some (.int .i64 sk) ∧ w'.cell? ⟨X4.heap.size, 1, none⟩ = some (.int .i64 sh) ∧ w'.cell? ⟨X4.heap.size, 2, none⟩ = some (.int .i64 sm) ∧ w'.cell? ⟨X4.heap.size, 3, none⟩ = some (.slice Ab4 nb4 cb4) ∧ w'.cell? ⟨X4.heap.size, 4, none⟩ = some (.int .i64 sf) ∧ w'.cell? ⟨X4.heap.size, 5, none⟩ = some (.slice Ac4 nc4 cc4) ∧ w'.cell? ⟨X4.heap.size, 6, none⟩ = some (.slice Af4 nf4 cf4) ∧ w'.cell? ⟨X4.heap.size, 7, none⟩ = some (.slice As4 ns4 cs4)) ∧ w'.cell? ⟨w.heap.size, 0, none⟩ = some (.int .i64 sk) ∧ w'.cell? ⟨w.heap.size, 1, none⟩ = some (.int .i64 sh) ∧ w'.cell? ⟨w.heap.size, 2, none⟩ = some (.int .i64 sm) ∧ w'.cell? ⟨w.heap.size, 3, none⟩ = some (.slice Ab nb cb) ∧ w'.cell? ⟨w.heap.size, 4, none⟩ = some (.int .i64 sf) ∧ w'.cell? ⟨w.heap.size, 5, none⟩ = some (.slice Ac nc cc) ∧ w'.cell? ⟨w.heap.size, 6, none⟩ = some (.slice Af nf cf) ∧ w'.cell? ⟨w.heap.size, 7, none⟩ = some (.slice As ns cs)) XD) := ⟨⟨KBa.out.cell 0 _ rfl, KBa.out.cell 1 _ rfl, KBa.out.cell 2 _ rfl, KBa.out.cell 3 _ rfl, KBa.out.cell 4 _ rfl, KBa.out.cell 5 _ rfl, KBa.out.cell 6 _ rfl, KBa.out.cell 7 _ rfl⟩, KAa.out.cell 0 _ rfl, KAa.out.cell 1 _ rfl, KAa.out.cell 2 _ rfl, KAa.out.cell 3 _ rfl, KAa.out.cell 4 _ rfl, KAa.out.cell 5 _ rfl, KAa.out.cell 6 _ rfl, KAa.out.cell 7 _ rfl⟩
 have ct := toState x _ XD w.heap.size (HV.out.on BD.out) HSh.out BD.out.size
 clear hbd
 refine tKf 0 S0.out ?_
 refine tKf 1 S0.out ?_
 refine uNe 2 (fun K hK => ?_)
 go_simp
 refine ct.mono ?_
 rintro b X7 ⟨⟨u7, rfl, hE7⟩, hb7⟩
 have C7 : Hid (Below X3.heap.size X3 X7) := CD.out.trans (hb7.mono CD.out.size)
 have D7 : Hid (Below X5.heap.size X5 X7) := DD.out.trans (hb7.mono DD.out.size)
 have KBb : Hid (Blk X7 X4.heap.size #[.int .i64 sk, .int .i64 sh, .int .i64 sm, .slice Ab4 nb4 cb4, .int .i64 sf, .slice Ac4 nc4 cc4, .slice Af4 nf4 cf4, .slice As4 ns4 cs4] 38) := KB.out.on D7.out KB.out.lt
 have KAb : Hid (Blk X7 w.heap.size #[.int .i64 sk, .int .i64 sh, .int .i64 sm, .slice Ab nb cb, .int .i64 sf, .slice Ac nc cc, .slice Af nf cf, .slice As ns cs] 29) := K3.out.on C7.out K3.out.lt
 have cq := eqState x (.agg #[.int .i64 sk, .int .i64 sh, .int .i64 sm, .slice Ab4 nb4 cb4, .int .i64 sf, .slice Ac4 nc4 cc4, .slice Af4 nf4 cf4, .slice As4 ns4 cs4]) u7 X3.heap.size XD.heap.size X7 (E5.out.on D7.out) hE7 HSh.out
 obtain ⟨Ab7, nb7, cb7, Ac7, nc7, cc7, Af7, nf7, cf7, As7, ns7, cs7, rfl⟩ := hE7.shape
 rw [HX.out] at cq ⊢
 clear hb7 ct S0 KBa KAa hE7
 go_wp2_with fail
 refine hK.out _ _ (fun _ _ => ⟨⟨KBb.out.cell 0 _ rfl, KBb.out.cell 1 _ rfl, KBb.out.cell 2 _ rfl, KBb.out.cell 3 _ rfl, KBb.out.cell 4 _ rfl, KBb.out.cell 5 _ rfl, KBb.out.cell 6 _ rfl, KBb.out.cell 7 _ rfl⟩, KAb.out.cell 0 _ rfl, KAb.out.cell 1 _ rfl, KAb.out.cell 2 _ rfl, KAb.out.cell 3 _ rfl, KAb.out.cell 4 _ rfl, KAb.out.cell 5 _ rfl, KAb.out.cell 6 _ rfl, KAb.out.cell 7 _ rfl⟩) ?_
 clear hK K
 try simp only [Act.put, zQ1, zQ2, zQ3]
 refine uNe 3 (fun K hK => ?_)
 go_simp
 refine cq.mono ?_
 rintro b X8 ⟨rfl, hb8⟩
 have C8 : Hid (Below X3.heap.size X3 X8) := C7.out.trans (hb8.mono C7.out.size)
 have D8 : Hid (Below X5.heap.size X5 X8) := D7.out.trans (hb8.mono D7.out.size)
 have KBc : Hid (Blk X8 X4.heap.size #[.int .i64 sk, .int .i64 sh, .int .i64 sm, .slice Ab4 nb4 cb4, .int .i64 sf, .slice Ac4 nc4 cc4, .slice Af4 nf4 cf4, .slice As4 ns4 cs4] 38) := KB.out.on D8.out KB.out.lt
 have KAc : Hid (Blk X8 w.heap.size #[.int .i64 sk, .int .i64 sh, .int .i64 sm, .slice Ab nb cb, .int .i64 sf, .slice Ac nc cc, .slice Af nf cf, .slice As ns cs] 29) := K3.out.on C8.out K3.out.lt
 clear hb8 cq KBb KAb
 go_wp2_with fail
 refine hK.out _ _ (fun _ _ => ⟨⟨KBc.out.cell 0 _ rfl, KBc.out.cell 1 _ rfl, KBc.out.cell 2 _ rfl, KBc.out.cell 3 _ rfl, KBc.out.cell 4 _ rfl, KBc.out.cell 5 _ rfl, KBc.out.cell 6 _ rfl, KBc.out.cell 7 _ rfl⟩, KAc.out.cell 0 _ rfl, KAc.out.cell 1 _ rfl, KAc.out.cell 2 _ rfl, KAc.out.cell 3 _ rfl, KAc.out.cell 4 _ rfl, KAc.out.cell 5 _ rfl, KAc.out.cell 6 _ rfl, KAc.out.cell 7 _ rfl⟩) ?_
 clear hK K
 try simp only [Act.put, zQ1, zQ2, zQ3]
 refine pUf 4 ?_
 refine until_done (by kernel_rfl) ?_ _
 clear KBc KAc C7 D7 CD DD BD
 go_wp2_with fail
 go_ret
 exact ⟨rfl, B3.out.trans (C8.out.mono B3.out.size)⟩
end Go.Proofs.YthhamlahdjokkaaGreatDoor
namespace Go.Proofs.YthhamlahdjokkaaGreatDoor
open Go.ChangeShapes Go.WideShapes Go.ChangeAt Go.RowKit Go.PlainAid
set_option linter.unusedVariables false
theorem list2s {α : Type} {l : List α} (h : l.length = 2) : ∃ a b, l = [a, b] := by
 match l, h with
 | [a, b], _ => exact ⟨a, b, rfl⟩
theorem list3s {α : Type} {l : List α} (h : l.length = 3) : ∃ a b c, l = [a, b, c] := by
 match l, h with
 | [a, b, c], _ => exact ⟨a, b, c, rfl⟩
theorem list4s {α : Type} {l : List α} (h : l.length = 4) : ∃ a b c d, l = [a, b, c, d] := by
 match l, h with
 | [a, b, c, d], _ => exact ⟨a, b, c, d, rfl⟩
theorem list6s {α : Type} {l : List α} (h : l.length = 6) : ∃ a b c d e f, l = [a, b, c, d, e, f] := by
 match l, h with
 | [a, b, c, d, e, f], _ => exact ⟨a, b, c, d, e, f, rfl⟩
theorem list8s {α : Type} {l : List α} (h : l.length = 8) : ∃ a b c d e f g k, l = [a, b, c, d, e, f, g, k] := by
 match l, h with
 | [a, b, c, d, e, f, g, k], _ => exact ⟨a, b, c, d, e, f, g, k, rfl⟩
theorem cAnsT : Tryz.prog.cellsOf 92 = 4 := by kernel_rfl
theorem cSesT : Tryz.prog.cellsOf 94 = 6 := by kernel_rfl
theorem cBkT : Tryz.prog.cellsOf 107 = 2 := by kernel_rfl
theorem cEngT : Tryz.prog.cellsOf 26 = 3 := by kernel_rfl
theorem cStT : Tryz.prog.cellsOf 29 = 8 := by kernel_rfl
section
variable {H : Type} {enc : TypeId × Value → H} {w : World} {base : Nat} {spare : Nat → Bool} {held : Bool}
set_option maxRecDepth 100000 in
theorem open_bkT (n : Nat) (cs : List Value) (y : DataW H × List MemPlace) (h : DataW.trod enc Tryz.prog w base spare held n 107 cs = some y) : ∃ z : Pnt, cs = ptC z ∧ True := by
 obtain ⟨xs, m, _, _, hl, hlen, hf⟩ := DataW.trod_struct Tryz.underlying107 h
 rw [cBkT] at hl
 obtain ⟨a, b, rfl⟩ := list2s hl
 obtain ⟨x0, x1, rfl⟩ := list2s (show xs.length = 2 from hlen)
 have f0 := hf 0 _ rfl
 have f1 := hf 1 _ rfl
 simp only [List.getElem?_cons_zero, List.getElem?_cons_succ] at f0 f1
 obtain ⟨i0, e0, _, h0⟩ := DataW.trod_int Tryz.underlying3 f0
 obtain ⟨i1, e1, _, h1⟩ := DataW.trod_int Tryz.underlying3 f1
 cases e0
 cases e1
 exact ⟨⟨i0, i1⟩, rfl, trivial⟩
set_option maxRecDepth 100000 in
theorem open_ansT (n : Nat) (cs : List Value) (y : DataW H × List MemPlace) (h : DataW.trod enc Tryz.prog w base spare held n 92 cs = some y) : ∃ z : Ans, cs = [.int .i64 z.code, .int .i64 z.index, .int .i64 z.mark, .string z.data] ∧ z.data.size ≤ maxLen := by
 obtain ⟨xs, m, _, _, hl, hlen, hf⟩ := DataW.trod_struct Tryz.underlying92 h
 rw [cAnsT] at hl
 obtain ⟨a, b, c, d, rfl⟩ := list4s hl
 obtain ⟨x0, x1, x2, x3, rfl⟩ := list4s (show xs.length = 4 from hlen)
 have f0 := hf 0 _ rfl
 have f1 := hf 1 _ rfl
 have f2 := hf 2 _ rfl
 have f3 := hf 3 _ rfl
 simp only [List.getElem?_cons_zero, List.getElem?_cons_succ] at f0 f1 f2 f3
 obtain ⟨i0, e0, _, h0⟩ := DataW.trod_int Tryz.underlying3 f0
 obtain ⟨i1, e1, _, h1⟩ := DataW.trod_int Tryz.underlying3 f1
 obtain ⟨i2, e2, _, h2⟩ := DataW.trod_int Tryz.underlying3 f2
 obtain ⟨s3, e3, _, hs⟩ := DataW.trod_string Tryz.underlying9 f3
 cases e0
 cases e1
 cases e2
 cases e3
 exact ⟨⟨i0, i1, i2, s3⟩, rfl, hs⟩
set_option maxRecDepth 100000 in
theorem open_sesT (n : Nat) (cs : List Value) (y : DataW H × List MemPlace) (h : DataW.trod enc Tryz.prog w base spare held n 94 cs = some y) : ∃ z : Ses, cs = sesC z ∧ z.data.size ≤ maxLen := by
 obtain ⟨xs, m, _, _, hl, hlen, hf⟩ := DataW.trod_struct Tryz.underlying94 h
 rw [cSesT] at hl
 obtain ⟨a, b, c, d, e, f, rfl⟩ := list6s hl
 obtain ⟨x0, x1, x2, rfl⟩ := list3s (show xs.length = 3 from hlen)
 have f0 := hf 0 _ rfl
 have f1 := hf 1 _ rfl
 have f2 := hf 2 _ rfl
 simp only [List.getElem?_cons_zero, List.getElem?_cons_succ] at f0 f1 f2
 obtain ⟨i0, e0, _, h0⟩ := DataW.trod_int Tryz.underlying3 f0
 obtain ⟨i1, e1, _, h1⟩ := DataW.trod_int Tryz.underlying3 f1
 obtain ⟨z, e2, hz⟩ := open_ansT _ _ _ f2
 cases e0
 cases e1
 cases e2
 exact ⟨⟨i0, i1, z.code, z.index, z.mark, z.data⟩, rfl, hz⟩
set_option maxRecDepth 100000 in
theorem open_engT (n : Nat) (cs : List Value) (y : DataW H × List MemPlace) (h : DataW.trod enc Tryz.prog w base spare held n 26 cs = some y) : ∃ (e : Eng) (vc vf : Value), cs = [.int .i64 e.floor, vc, vf] ∧ SerV w w.heap.size vc e.cache ∧ Lies w w.heap.size 1 vf (stR e.files) ∧ EFits e := by
 obtain ⟨xs, m, _, _, hl, hlen, hf⟩ := DataW.trod_struct Tryz.underlying26 h
 rw [cEngT] at hl
 obtain ⟨a, b, c, rfl⟩ := list3s hl
 obtain ⟨x0, x1, x2, rfl⟩ := list3s (show xs.length = 3 from hlen)
 have f0 := hf 0 _ rfl
 have f1 := hf 1 _ rfl
 have f2 := hf 2 _ rfl
 simp only [List.getElem?_cons_zero, List.getElem?_cons_succ] at f0 f1 f2
 obtain ⟨i0, e0, _, w0⟩ := DataW.trod_int Tryz.underlying3 f0
 cases e0
 obtain ⟨ls, l1, l2, l3⟩ := open_rows Tryz.underlying23 2 cSr (by omega) srC (fun _ => rfl) _ open_sr f1
 obtain ⟨ts, t1, t2, t3⟩ := open_rows Tryz.underlying24 1 cStr9 (by omega) stC (fun _ => rfl) _ open_text f2
 refine ⟨⟨i0, ls.map Prod.fst, ts⟩, b, c, rfl, ⟨ls, rfl, l1, fun p hp => (l3 p hp).1⟩, t1, ⟨by rw [List.length_map]; exact l2, fun x hx => ?_⟩, t2, t3⟩
 obtain ⟨p, hp, rfl⟩ := List.mem_map.1 hx
 exact (l3 p hp).2
set_option maxRecDepth 100000 in
theorem open_state {r : Reach} {b0 : Nat} {v : Value} {dd : DataW H} {ps : List MemPlace} (hval : Value.okWide Tryz.prog w r b0 29 v) (hd : DataW.Trod enc Tryz.prog w base spare held 29 v dd ps) : ∃ x : Sta, StaV w w.heap.size v x ∧ StFits x ∧ True := by
 obtain ⟨cs, rfl, hsz⟩ := okWide_struct Tryz.underlying29 hval
 rw [cStT] at hsz
 obtain ⟨fuel, hf0⟩ := hd
 obtain ⟨xs, m, _, _, _, hlen, hf⟩ := DataW.trod_struct Tryz.underlying29 hf0
 obtain ⟨l⟩ := cs
 obtain ⟨a, b, c, d, e, f, g, k, rfl⟩ := list8s (show l.length = 8 from hsz)
 obtain ⟨x0, x1, x2, x3, x4, x5, rfl⟩ := list6s (show xs.length = 6 from hlen)
 have f0 := hf 0 _ rfl
 have f1 := hf 1 _ rfl
 have f2 := hf 2 _ rfl
 have f3 := hf 3 _ rfl
 have f4 := hf 4 _ rfl
 have f5 := hf 5 _ rfl
 simp only [Value.cells, List.getElem?_cons_zero, List.getElem?_cons_succ] at f0 f1 f2 f3 f4 f5
 obtain ⟨i0, e0, _, w0⟩ := DataW.trod_int Tryz.underlying3 f0
 obtain ⟨i1, e1, _, w1⟩ := DataW.trod_int Tryz.underlying3 f1
 obtain ⟨i2, e2, _, w2⟩ := DataW.trod_int Tryz.underlying3 f2
 cases e0
 cases e1
 cases e2
 obtain ⟨bs, b1, b2, _⟩ := open_rows Tryz.underlying22 2 cBkT (by omega) ptC (fun _ => rfl) _ open_bkT f3
 obtain ⟨en, vc, vf, e4, hc, hl, hE⟩ := open_engT _ _ _ f4
 cases e4
 obtain ⟨ss, s1, s2, s3⟩ := open_rows Tryz.underlying27 6 cSesT (by omega) sesC (fun _ => rfl) _ open_sesT f5
 exact ⟨⟨i0, i1, i2, bs, en, ss⟩, ⟨_, _, _, _, rfl, b1, hc, hl, s1⟩, ⟨b2, hE, s2, s3⟩, trivial⟩
end
end Go.Proofs.YthhamlahdjokkaaGreatDoor
