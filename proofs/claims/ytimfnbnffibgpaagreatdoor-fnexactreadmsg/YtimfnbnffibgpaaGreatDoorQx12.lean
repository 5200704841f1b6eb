/- CmOpP UntilF MgS1 CmAnsS -/
import Derived.Test.YtimfnbnffibgpaaGreatDoorRows
import Derived.Test.YtimfnbnffibgpaaGreatDoorQx11
import Derived.Test.YtimfnbnffibgpaaGreatDoorQx3
import Derived.Test.YtimfnbnffibgpaaGreatDoorQx8
import Derived.Test.YtimfnbnffibgpaaGreatDoorQx9
import Derived.Test.YtimfnbnffibgpaaGreatDoorQx2
import Derived.Laws.StructEq
import Derived.Laws.DeepStrings4
import Derived.Deep.Cut
import Derived.Deep.CutRange
import Derived.Handy
open List (setIfInBounds_toArray set_cons_zero set_cons_succ)
namespace Go.Proofs.YtimfnbnffibgpaaGreatDoor
open Go.ChangeShapes Go.WideShapes Go.ChangeAt Go.RowKit Go.PlainAid
set_option linter.unusedVariables false
theorem text_neqC {a b : ByteArray} (h : ¬ a = b) : ¬ a.toList = b.toList ∧ (a.toList == b.toList) = false ∧ (a.toList != b.toList) = true := by
 have : ¬ a.toList = b.toList := by
  intro e
  rw [Lib.toList_data, Lib.toList_data] at e
  exact h (ByteArray.ext (Array.toList_inj.1 e))
 exact ⟨this, by simpa using this, by simpa [bne] using this⟩
theorem Nums.full1 {w : World} {base : Nat} {v : Value} {l : List Int} (h : Nums w base v l) (hl : 0 < l.length) : ∃ g cap, v = .slice (some ⟨g, 0, none⟩) l.length cap ∧ base ≤ g ∧ g < w.heap.size := by
 rcases h.form with ⟨_, e⟩ | ⟨g, cap, e, _, _, h1, h2⟩
 ·rw [e] at hl; cases hl
 ·exact ⟨g, cap, e, h1, h2⟩
set_option maxHeartbeats 4000000 in
theorem specReadOp (s : ByteArray) (w : World) (hs : s.size ≤ 1048576) :
  Calls Tryz.prog 23 #[.string s] w fun e w' => OpA s e ∧ Below w.heap.size w w' := by
 have c := fun wx => specVars s 1 1 wx hs (by omega) (by omega)
 have c2 := fun a wx (ha : a ≤ 2097152) => specVars s a 2 wx hs ha (by omega)
 have k0 := Blk.new w #[.int .i64 0, .string ⟨#[]⟩, .int .i64 0, .int .i64 0, .string ⟨#[]⟩] 44
 have hb0 := (Below.refl w.heap.size w).alloc (Nat.le_refl _) (.cells #[.int .i64 0, .string ⟨#[]⟩, .int .i64 0, .int .i64 0, .string ⟨#[]⟩] 44)
 have HS : Hid (s.size ≤ 1048576) := hs
 have q2 : (s.size : Int) ≤ 1048576 := by omega
 clear hs
 go_enter Tryz.func23, Tryz.ntmps23
 go_wp2_with fail
 generalize w.alloc (.cells #[.int .i64 0, .string ⟨#[]⟩, .int .i64 0, .int .i64 0, .string ⟨#[]⟩] 44) = X at *
 refine (c _).mono ?_
 rintro e w1 ⟨hR, hb1⟩
 have k1 := Hid.mk (k0.on hb1 k0.lt)
 have B1 : Hid (Below w.heap.size w w1) := hb0.trans (hb1.mono hb0.size)
 clear hb1 k0 c
 rcases hR with ⟨l, n1, u, hR, rfl, hN⟩ | ⟨hno, u, rfl⟩
 rotate_left
 ·have HN : Hid (∀ x, ¬ OpRd s x) := by
   rintro x ⟨k, n1, f, t, m, h0, h1, h2, h3, h4, h5⟩
   exact hno _ _ h1
  clear hno hb0 c2
  obtain ⟨⟨r0, s0⟩, ⟨r1, s1⟩, ⟨r2, s2⟩, ⟨r3, s3⟩, ⟨r4, s4⟩, y0, y1, y2, y3, y4⟩ := resC5 (x0 := .int .i64 0) (x1 := .string ⟨#[]⟩) (x2 := .int .i64 0) (x3 := .int .i64 0) (x4 := .string ⟨#[]⟩) k1.out
  have BZ := Hid.mk (belowC5 B1.out (Nat.le_refl _) (.int .i64 0) (.string ⟨#[]⟩) (.int .i64 0) (.int .i64 0) (.string ⟨#[]⟩))
  go_wp2_with fail
  exact bodyPost_ret (v := .tuple #[.agg #[.int .i64 0, .string ⟨#[]⟩, .int .i64 0, .int .i64 0, .string ⟨#[]⟩], .bool false]) (by simp [results, go_sem, y0, y1, y2, y3, y4]) rfl ⟨.inr ⟨HN.out, rfl⟩, BZ.out⟩
 have hl := hR.length
 obtain ⟨z, rfl⟩ : ∃ a, l = [a] := by
  match l, hl with
  | [a], _ => exact ⟨a, rfl⟩
 have hz := hR.bound z (by simp)
 obtain ⟨kl, rfl⟩ : ∃ n : Nat, z = (n : Int) := ⟨z.toNat, by omega⟩
 have HR : Hid (RdF s 1 1 [(kl : Int)] n1) := hR
 have hns := hR.ge.2 (by omega)
 have hn1 := hR.ge.1
 have hnl := hR.le
 obtain ⟨g1, cap1, rfl, hg1, hg2⟩ := hN.full1 (by simp)
 have e0 : w1.cell? ⟨g1, 0, none⟩ = some (.int .i64 (kl : Int)) := hN.cell 0 (by simp)
 have HG1 : Hid (g1 < w1.heap.size) := hg2
 have hlen : [(kl : Int)].length = 1 := rfl
 rw [hlen] at *
 have q1 : (n1 : Int) ≤ (s.size : Int) := by omega
 have q3 : decide ((n1 : Int) < 0) = false := decide_eq_false (by omega)
 have HKO : Hid (∀ x, OpRd s x → kl ≤ 8 ∧ n1 + kl ≤ s.size) := by
  rintro x ⟨k, n1', f, t, m, h0, h1, h2, h3, rfl, h5⟩
  obtain ⟨e, rfl⟩ := h1.one HR.out
  simp only [List.cons.injEq, and_true] at e
  obtain rfl : k = kl := by omega
  have := (opOk_in h5).2.1
  simp only [ByteArray.size_extract] at this
  omega
 have hw1 : IntKind.i64.wrap ((s.size : Int) - (n1 : Int)) = (s.size : Int) - (n1 : Int) := by rw [IntKind.wrap_i64]; omega
 have hw2 : wrap64 ((s.size : Int) - (n1 : Int)) = (s.size : Int) - (n1 : Int) := by unfold wrap64; omega
 clear hR hl hN hg1 hg2 hlen hz
 by_cases h8 : kl ≤ 8
 rotate_left
 ·have HN : Hid (∀ x, ¬ OpRd s x) := fun x hx => h8 (HKO.out x hx).1
  have q4 : (8 : Int) < (kl : Int) := by omega
  clear c2 hb0 h8 HKO
  obtain ⟨⟨r0, s0⟩, ⟨r1, s1⟩, ⟨r2, s2⟩, ⟨r3, s3⟩, ⟨r4, s4⟩, y0, y1, y2, y3, y4⟩ := resC5 (x0 := .int .i64 0) (x1 := .string ⟨#[]⟩) (x2 := .int .i64 0) (x3 := .int .i64 0) (x4 := .string ⟨#[]⟩) k1.out
  have BZ := Hid.mk (belowC5 B1.out (Nat.le_refl _) (.int .i64 0) (.string ⟨#[]⟩) (.int .i64 0) (.int .i64 0) (.string ⟨#[]⟩))
  go_wp2_with fail
  exact bodyPost_ret (v := .tuple #[.agg #[.int .i64 0, .string ⟨#[]⟩, .int .i64 0, .int .i64 0, .string ⟨#[]⟩], .bool false]) (by simp [results, go_sem, y0, y1, y2, y3, y4]) rfl ⟨.inr ⟨HN.out, rfl⟩, BZ.out⟩
 have q4 : (kl : Int) ≤ 8 := by omega
 have q4' : decide ((8 : Int) < (kl : Int)) = false := decide_eq_false (by omega)
 by_cases hle : n1 + kl ≤ s.size
 rotate_left
 ·have HN : Hid (∀ x, ¬ OpRd s x) := fun x hx => hle (HKO.out x hx).2
  have q5 : (s.size : Int) - (n1 : Int) < (kl : Int) := by omega
  clear c2 hb0 hle HKO h8
  obtain ⟨⟨r0, s0⟩, ⟨r1, s1⟩, ⟨r2, s2⟩, ⟨r3, s3⟩, ⟨r4, s4⟩, y0, y1, y2, y3, y4⟩ := resC5 (x0 := .int .i64 0) (x1 := .string ⟨#[]⟩) (x2 := .int .i64 0) (x3 := .int .i64 0) (x4 := .string ⟨#[]⟩) k1.out
  have BZ := Hid.mk (belowC5 B1.out (Nat.le_refl _) (.int .i64 0) (.string ⟨#[]⟩) (.int .i64 0) (.int .i64 0) (.string ⟨#[]⟩))
  go_wp2_with fail
  exact bodyPost_ret (v := .tuple #[.agg #[.int .i64 0, .string ⟨#[]⟩, .int .i64 0, .int .i64 0, .string ⟨#[]⟩], .bool false]) (by simp [results, go_sem, y0, y1, y2, y3, y4]) rfl ⟨.inr ⟨HN.out, rfl⟩, BZ.out⟩
 have q5 : (kl : Int) ≤ (s.size : Int) - (n1 : Int) := by omega
 have q5' : decide ((s.size : Int) - (n1 : Int) < (kl : Int)) = false := decide_eq_false (by omega)
 have HLE : Hid (n1 + kl ≤ s.size) := hle
 have hw3 : IntKind.i64.wrap ((n1 : Int) + (kl : Int)) = ((n1 + kl : Nat) : Int) := by rw [IntKind.wrap_i64]; omega
 have hw4 : wrap64 ((n1 : Int) + (kl : Int)) = ((n1 + kl : Nat) : Int) := by unfold wrap64; omega
 have c3 := fun wx => c2 (n1 + kl) wx (by omega)
 have HN1 : Hid (2 ≤ n1) := by unfold Hid; omega
 clear c2 HKO h8 hle hb0 hns hn1 hnl
 generalize hnk : n1 + kl = nk at *
 have HNK : Hid (n1 + kl = nk) := hnk
 clear hnk
 go_wp2_with fail
 refine (c3 _).mono ?_
 rintro e w2 ⟨hR, hb2⟩
 have k2 := Hid.mk (k1.out.on hb2 k1.out.lt)
 have B2 : Hid (Below w.heap.size w w2) := B1.out.trans (hb2.mono B1.out.size)
 have e1 : w2.cell? ⟨g1, 0, none⟩ = some (.int .i64 (kl : Int)) := by rw [hb2.cell HG1.out]; exact e0
 have HG3 : Hid (g1 < w2.heap.size) := Nat.lt_of_lt_of_le HG1.out hb2.size
 clear hb2 k1 B1 c3 e0 HG1
 rcases hR with ⟨l, m, u, hR, rfl, hN⟩ | ⟨hno, u, rfl⟩
 rotate_left
 ·have HN : Hid (∀ x, ¬ OpRd s x) := by
   rintro x ⟨k, n1', f, t, m, h0, h1, h2, h3, rfl, h5⟩
   obtain ⟨e, rfl⟩ := h1.one HR.out
   simp only [List.cons.injEq, and_true] at e
   obtain rfl : k = kl := by omega
   rw [HNK.out] at h3
   exact hno _ _ h3
  clear hno
  obtain ⟨⟨r0, s0⟩, ⟨r1, s1⟩, ⟨r2, s2⟩, ⟨r3, s3⟩, ⟨r4, s4⟩, y0, y1, y2, y3, y4⟩ := resC5 (x0 := .int .i64 0) (x1 := .string ⟨#[]⟩) (x2 := .int .i64 0) (x3 := .int .i64 0) (x4 := .string ⟨#[]⟩) k2.out
  have BZ := Hid.mk (belowC5 B2.out (Nat.le_refl _) (.int .i64 0) (.string ⟨#[]⟩) (.int .i64 0) (.int .i64 0) (.string ⟨#[]⟩))
  go_wp2_with fail
  exact bodyPost_ret (v := .tuple #[.agg #[.int .i64 0, .string ⟨#[]⟩, .int .i64 0, .int .i64 0, .string ⟨#[]⟩], .bool false]) (by simp [results, go_sem, y0, y1, y2, y3, y4]) rfl ⟨.inr ⟨HN.out, rfl⟩, BZ.out⟩
 have hl := hR.length
 obtain ⟨z1, z2, rfl⟩ : ∃ a b, l = [a, b] := by
  match l, hl with
  | [a, b], _ => exact ⟨a, b, rfl⟩
 have HR2 : Hid (RdF s nk 2 [z1, z2] m) := hR
 have hns := hR.ge.2 (by omega)
 obtain ⟨g2, cap2, rfl, hg1, hg2⟩ := hN.full1 (by simp)
 have e2 : w2.cell? ⟨g2, 0, none⟩ = some (.int .i64 z1) := hN.cell 0 (by simp)
 have e3 : w2.cell? ⟨g2, 1, none⟩ = some (.int .i64 z2) := hN.cell 1 (by simp)
 have hlen : [z1, z2].length = 2 := rfl
 rw [hlen] at *
 have HG4 : Hid (g2 < w2.heap.size) := hg2
 have SS : Hid (w2.drew.cell? ⟨g1, 0, none⟩ = some (.int .i64 (kl : Int)) ∧ w2.drew.cell? ⟨g2, 0, none⟩ = some (.int .i64 z1) ∧ w2.drew.cell? ⟨g2, 1, none⟩ = some (.int .i64 z2)) := ⟨e1, e2, e3⟩
 have q6 : (m : Int) ≤ (s.size : Int) := by omega
 have q7 : decide ((m : Int) < 0) = false := decide_eq_false (by omega)
 have q8 : (n1 : Int) ≤ (nk : Int) := by have := HNK.out; omega
 have q9 : (nk : Int) ≤ (s.size : Int) := by have := HLE.out; omega
 have qa : (0 : Int) < (s.size : Int) := by have := HN1.out; omega
 have qb : 0 < s.size := by omega
 have hbt := get_bn s
 have hbl := bn_lt s 0
 have HZ : Hid (1 ≤ s.size) := qb
 have HNE : Hid (¬ s = ⟨#[]⟩) := by
  intro e
  rw [e] at qb
  have h0 : (⟨#[]⟩ : ByteArray).size = 0 := rfl
  omega
 have HX1 : Hid (opOk ⟨(bn s 0 : Int), s.extract n1 nk, z1, z2, lf s m⟩ = true → OpRd s ⟨(bn s 0 : Int), s.extract n1 nk, z1, z2, lf s m⟩ ∧ opT ⟨(bn s 0 : Int), s.extract n1 nk, z1, z2, lf s m⟩ = s) := by
  have h1 := HR.out
  have h2 := HR2.out
  have h3 := HLE.out
  rw [← HNK.out] at h2 h3 ⊢
  exact fun h => ⟨⟨kl, n1, z1, z2, m, HZ.out, h1, h3, h2, rfl, h⟩, opT_back HZ.out h1 h3 h2 h⟩
 have HX2 : Hid (opOk ⟨(bn s 0 : Int), s.extract n1 nk, z1, z2, lf s m⟩ = false → (∀ x, ¬ OpRd s x) ∧ opT ⟨(bn s 0 : Int), s.extract n1 nk, z1, z2, lf s m⟩ = ⟨#[]⟩) := by
  intro h
  refine ⟨?_, by unfold opT; rw [h]; rfl⟩
  rintro x ⟨k, n1', f, t, m', h0, h1, h2, h3, rfl, h5⟩
  obtain ⟨e, rfl⟩ := h1.one HR.out
  simp only [List.cons.injEq, and_true] at e
  obtain rfl : k = kl := by omega
  rw [HNK.out] at h3 h5
  obtain ⟨e, rfl⟩ := h3.one HR2.out
  simp only [List.cons.injEq, and_true] at e
  obtain ⟨rfl, rfl⟩ := e
  rw [h] at h5
  cases h5
 have HL1 : Hid ((s.extract n1 nk).size ≤ 1048576) := by unfold Hid; rw [ByteArray.size_extract]; have := HS.out; omega
 have HL2 : Hid ((lf s m).size ≤ 1048576) := by unfold Hid; rw [lf_size]; have := HS.out; omega
 have HEX : Hid (s.extract m s.size = lf s m) := rfl
 clear hR hl hN e1 e2 e3 hg1 hg2 hlen hns
 go_wp2_with fail
 refine wp_region_until (fun w' => w'.cell? ⟨g1, 0, none⟩ = some (.int .i64 (kl : Int)) ∧ w'.cell? ⟨g2, 0, none⟩ = some (.int .i64 z1) ∧ w'.cell? ⟨g2, 1, none⟩ = some (.int .i64 z2)) (fun i => i == 22) 23 (by rfl) (by kernel_rfl) ?_
 have B2' : Hid (Below w.heap.size w w2.drew) := B2.out.drew
 have k2' : Hid (Blk w2.drew w.heap.size #[.int .i64 0, .string ⟨#[]⟩, .int .i64 0, .int .i64 0, .string ⟨#[]⟩] 44) := k2.out
 have HG3' : Hid (g1 < w2.drew.heap.size) := HG3.out
 have HG4' : Hid (g2 < w2.drew.heap.size) := HG4.out
 clear k2 B2 HG3 HG4
 generalize w2.drew = Y at *
 refine pUf 0 ?_
 refine pUf 1 ?_
 refine pUf 2 ?_
 refine pUf 3 ?_
 refine pUf 4 ?_
 refine pUf 5 ?_
 refine pUf 6 ?_
 refine pUf 7 ?_
 refine tKf 8 SS.out ?_
 refine pUf 9 ?_
 refine pUf 10 ?_
 refine pUf 11 ?_
 refine pUf 12 ?_
 refine tKf 13 SS.out ?_
 refine pUf 14 ?_
 refine pUf 15 ?_
 refine tKf 16 SS.out ?_
 refine pUf 17 ?_
 refine pUf 18 ?_
 refine pUf 19 ?_
 refine pUf 20 ?_
 rw [HEX.out]
 clear HEX hbt
 generalize lf s m = d at *
 generalize s.extract n1 nk = ky at *
 generalize bn s 0 = kn at *
 refine uNe 21 (fun K hK => ?_)
 go_simp
 have S2 : Hid ((Y.alloc (.cells #[.int .i64 0, .string ⟨#[]⟩, .int .i64 0, .int .i64 0, .string ⟨#[]⟩] 44)).cell? ⟨g1, 0, none⟩ = some (.int .i64 (kl : Int)) ∧ (Y.alloc (.cells #[.int .i64 0, .string ⟨#[]⟩, .int .i64 0, .int .i64 0, .string ⟨#[]⟩] 44)).cell? ⟨g2, 0, none⟩ = some (.int .i64 z1) ∧ (Y.alloc (.cells #[.int .i64 0, .string ⟨#[]⟩, .int .i64 0, .int .i64 0, .string ⟨#[]⟩] 44)).cell? ⟨g2, 1, none⟩ = some (.int .i64 z2)) := by
  have hb := below_c1 Y (.cells #[.int .i64 0, .string ⟨#[]⟩, .int .i64 0, .int .i64 0, .string ⟨#[]⟩] 44)
  exact ⟨by rw [hb.cell HG3'.out]; exact SS.out.1, by rw [hb.cell HG4'.out]; exact SS.out.2.1, by rw [hb.cell HG4'.out]; exact SS.out.2.2⟩
 refine hK.out _ _ (fun _ _ => S2.out) ?_
 clear hK K
 try simp only [Act.put, zQ1, zQ2, zQ3]
 refine uNe 22 (fun K hK => ?_)
 go_simp
 refine hK.out _ _ (fun h => by cases h) ?_
 clear hK K
 try simp only [Act.put, zQ1, zQ2, zQ3]
 refine until_done (by kernel_rfl) ?_ _
 have kA := Blk.new Y #[.int .i64 (kn : Int), .string ky, .int .i64 z1, .int .i64 z2, .string d] 44
 have kR := k2'.out.alloc (.cells #[.int .i64 (kn : Int), .string ky, .int .i64 z1, .int .i64 z2, .string d] 44)
 have hbA := B2'.out.alloc B2'.out.size (.cells #[.int .i64 (kn : Int), .string ky, .int .i64 z1, .int .i64 z2, .string d] 44)
 obtain ⟨c0, c1, c2, c3, c4⟩ := cellsC5 kA
 clear S2 SS k2' B2'
 go_wp2_with fail
 generalize Y.alloc (.cells #[.int .i64 (kn : Int), .string ky, .int .i64 z1, .int .i64 z2, .string d] 44) = V at *
 refine (specShowOp ⟨(kn : Int), ky, z1, z2, d⟩ _ (by have := HL1.out; simp only [maxLen]; omega) HL2.out).mono ?_
 rintro e w3 ⟨rfl, hb⟩
 have A2 := Hid.mk (kA.on hb kA.lt)
 have R2 := Hid.mk (kR.on hb kR.lt)
 have B3 : Hid (Below w.heap.size w w3) := hbA.trans (hb.mono hbA.size)
 clear hb kA kR hbA c0 c1 c2 c3 c4
 generalize opT ⟨(kn : Int), ky, z1, z2, d⟩ = T at *
 cases ho : opOk ⟨(kn : Int), ky, z1, z2, d⟩
 ·obtain ⟨HN, hT⟩ := HX2.out ho
  have HN : Hid (∀ x, ¬ OpRd s x) := HN
  obtain ⟨hq1, hq2, hq3⟩ := text_neqC (a := T) (b := s) (by rw [hT]; exact fun e => HNE.out e.symm)
  clear hT ho HX1 HX2
  obtain ⟨⟨r0, s0⟩, ⟨r1, s1⟩, ⟨r2, s2⟩, ⟨r3, s3⟩, ⟨r4, s4⟩, y0, y1, y2, y3, y4⟩ := resC5 (x0 := .int .i64 0) (x1 := .string ⟨#[]⟩) (x2 := .int .i64 0) (x3 := .int .i64 0) (x4 := .string ⟨#[]⟩) R2.out
  have BZ := Hid.mk (belowC5 B3.out (Nat.le_refl _) (.int .i64 0) (.string ⟨#[]⟩) (.int .i64 0) (.int .i64 0) (.string ⟨#[]⟩))
  go_wp2_with fail
  exact bodyPost_ret (v := .tuple #[.agg #[.int .i64 0, .string ⟨#[]⟩, .int .i64 0, .int .i64 0, .string ⟨#[]⟩], .bool false]) (by simp [results, go_sem, y0, y1, y2, y3, y4]) rfl ⟨.inr ⟨HN.out, rfl⟩, BZ.out⟩
 ·obtain ⟨hx, hT⟩ := HX1.out ho
  have HX : Hid (OpRd s ⟨(kn : Int), ky, z1, z2, d⟩) := hx
  subst hT
  clear hx ho HX1 HX2
  obtain ⟨c0, c1, c2, c3, c4⟩ := cellsC5 A2.out
  obtain ⟨⟨r0, s0⟩, ⟨r1, s1⟩, ⟨r2, s2⟩, ⟨r3, s3⟩, ⟨r4, s4⟩, y0, y1, y2, y3, y4⟩ := resC5 (x0 := .int .i64 (kn : Int)) (x1 := .string ky) (x2 := .int .i64 z1) (x3 := .int .i64 z2) (x4 := .string d) R2.out
  have BZ := Hid.mk (belowC5 B3.out (Nat.le_refl _) (.int .i64 (kn : Int)) (.string ky) (.int .i64 z1) (.int .i64 z2) (.string d))
  go_wp2_with fail
  exact bodyPost_ret (v := .tuple #[.agg #[.int .i64 (kn : Int), .string ky, .int .i64 z1, .int .i64 z2, .string d], .bool true]) (by simp [results, go_sem, y0, y1, y2, y3, y4]) rfl ⟨.inl ⟨_, HX.out, rfl⟩, BZ.out⟩
end Go.Proofs.YtimfnbnffibgpaaGreatDoor
namespace Go.Proofs.YtimfnbnffibgpaaGreatDoor
set_option linter.unusedVariables false
section
variable {P : Program} {Q : Exit → Act → World → Prop} {md : Region.Mode} {S : World → Prop} {T : Nat → Bool}
theorem tF {l : List Oper} (i : Nat) {oi : Oper} {rest : List Oper} {v : Value} {fuel : Nat} {listed : Array Bool} {a b : Act} {w : World} (hS : S w) (h : wpUntil P md l.toArray Q S T fuel (listed.setIfInBounds i true) b w) (hd : l.drop i = oi :: rest := by rfl) (hB : takeB md l.toArray T listed i = true := by kernel_rfl) (hw : Region.wanted oi (yielded l.toArray a.tmps) = true := by rfl) (hy : ∀ w, S w → (execOp a.eval oi).run P w = .ok (.value v) w := by intro w hSw; (try dsimp only at hSw); go_simp; try with_reducible rfl) (hb : a.put oi.dst v = b := by (try simp only [Act.put, zQ1, zQ2, zQ3]); exact rfl) (hQ : ∀ c a w, Q (.panic c) (a.put oi.dst v) w → Q (.panic c) a w := by exact fun _ _ _ h => h) : wpUntil P md l.toArray Q S T (fuel + 1) listed a w := until_take i hd hB hQ hw hy hS (hb ▸ h)
theorem pF {l : List Oper} (i : Nat) {oi : Oper} {rest : List Oper} {v : Value} {fuel : Nat} {listed : Array Bool} {a b : Act} {w : World} (h : wpUntil P md l.toArray Q S T fuel (listed.setIfInBounds i true) b w) (hd : l.drop i = oi :: rest := by rfl) (hB : pureB md l.toArray listed i = true := by kernel_rfl) (hw : Region.wanted oi (yielded l.toArray a.tmps) = true := by rfl) (hy : ∀ w, (execOp a.eval oi).run P w = .ok (.value v) w := by intro w; go_simp; try with_reducible rfl) (hb : a.put oi.dst v = b := by (try simp only [Act.put, zQ1, zQ2, zQ3]); exact rfl) (hQ : ∀ c a w, Q (.panic c) (a.put oi.dst v) w → Q (.panic c) a w := by exact fun _ _ _ h => h) : wpUntil P md l.toArray Q S T (fuel + 1) listed a w := until_pure i hd hB hQ hw hy (hb ▸ h)
end
end Go.Proofs.YtimfnbnffibgpaaGreatDoor
namespace Go.Proofs.YtimfnbnffibgpaaGreatDoor
open Go.ChangeShapes Go.WideShapes Go.ChangeAt Go.RowKit Go.PlainAid
set_option linter.unusedVariables false
theorem srvS (a : Int) (w : World) : Calls Tryz.prog 18 #[.int .i64 a] w fun e w' => e = .returned (.bool (srvB a)) ∧ w = w' := by
 have c := inS a 0 4 w
 go_enter Tryz.func18, Tryz.ntmps18
 go_wp2_with fail
 refine c.mono ?_
 rintro e w' ⟨rfl, rfl⟩
 go_wp2_with fail
 go_ret
 exact ⟨rfl, rfl⟩
theorem cliS (a : Int) (w : World) : Calls Tryz.prog 19 #[.int .i64 a] w fun e w' => e = .returned (.bool (cliB a)) ∧ w = w' := by
 have c := inS a 11 14 w
 go_enter Tryz.func19, Tryz.ntmps19
 go_wp2_with fail
 refine c.mono ?_
 rintro e w' ⟨rfl, rfl⟩
 go_wp2_with fail
 go_ret
 exact ⟨rfl, rfl⟩
set_option maxHeartbeats 4000000 in
theorem runV (l : List Ent) (lo hi : Int) (v : Value) (w : World) (B : Nat) (hv : Lies w B 2 v (entR l)) (hn : l.length ≤ maxLen) (hd : ∀ y ∈ l, y.data.size ≤ maxLen) : Calls Tryz.prog 22 #[v, .int .i64 lo, .int .i64 hi] w fun e w' => e = .returned (.bool (entsOk hi lo l)) ∧ w = w' := by
 obtain ⟨A, cap, rfl, hlk⟩ := ent_look hv
 have HL : Hid (∀ j, j < l.length → ∃ g off, A = some ⟨g, off, none⟩ ∧ g < B ∧ _) := hlk
 have HF : Hid (∀ e ∈ l, e.data.size ≤ maxLen) := hd
 unfold maxLen at hn
 have q1 : (l.length : Int) ≤ 9223372036854775807 := by omega
 have HE : Hid (entsOk hi lo l = leOk hi (max lo 1) l) := entsOk_le hi l lo
 have HA0 : Hid (leAt lo l 0 = max lo 1) := rfl
 clear hv hlk hd hn
 generalize hN : l.length = n at *
 have HM : Hid (max lo 1 = if lo < 1 then 1 else lo) := by unfold Hid; rw [Int.max_def]; split <;> split <;> omega
 by_cases hm : lo < 1
 all_goals
  first
   | (have em : decide (lo < 1) = true := decide_eq_true hm)
   | (have em : decide (lo < 1) = false := decide_eq_false hm)
  first
   | rw [if_pos hm] at HM
   | rw [if_neg hm] at HM
  go_enter Tryz.func22, Tryz.ntmps22
  go_wp2_with fail
  go_loopw [1, 7] (fun v1 v7 wr => ∃ k : Nat, k ≤ n ∧ v7 = .int .i64 (k : Int) ∧ v1 = .int .i64 (leAt lo l k) ∧ Hid (entsOk hi lo l = leOk hi (leAt lo l k) (l.drop k)) ∧ wr = w) (fun _ i _ => n - (intOf i).toNat)
  case atStart => exact ⟨0, Nat.zero_le _, rfl, by rw [HA0.out, HM.out], by rw [HA0.out]; exact HE, rfl⟩
  case round =>
   obtain ⟨k, hk, rfl, rfl, HR, rfl⟩ := hrel
   by_cases hlt : k < n
   ·have q4 : (k : Int) < (n : Int) := by omega
    obtain ⟨g, off, rfl, hg, hc0, hc1⟩ := HL.out k hlt
    have HX := le_step hi (leAt lo l k) l k (by omega)
    have HXS : Hid (leAt lo l (k + 1) = (l.getD k default).term) := leAt_succ lo l k
    have hds := HF.out _ (getD_mem l k (by omega))
    unfold maxLen at hds
    have hdi : ((l.getD k default).data.size : Int) ≤ 9223372036854775807 := by omega
    have HXX : Hid (entsOk hi lo l = (inRg (l.getD k default).term (leAt lo l k) hi && decide ((l.getD k default).data.size ≤ 900) && leOk hi (l.getD k default).term (l.drop (k + 1)))) := HR.out.trans HX
    clear HX HR hds
    have cI := inS (l.getD k default).term (leAt lo l k) hi
    generalize leAt lo l k = la at *
    generalize l.getD k default = y at *
    obtain ⟨yt, yd⟩ := y
    simp only at hc0 hc1 HXX HXS hdi cI
    go_wp2_with fail
    refine (cI _).mono ?_
    rintro e w' ⟨rfl, rfl⟩
    cases hr : inRg yt la hi <;> rw [hr] at HXX
    ·go_wp2_with fail
     go_ret
     exact ⟨by rw [HXX.out]; rfl, rfl⟩
    by_cases hz : (yd.size : Int) ≤ 900
    rotate_left
    ·rw [decide_eq_false (show ¬ yd.size ≤ 900 by omega)] at HXX
     have hz' : 900 < (yd.size : Int) := by omega
     clear hz
     go_wp2_with fail
     go_ret
     exact ⟨by rw [HXX.out]; rfl, rfl⟩
    rw [decide_eq_true (show yd.size ≤ 900 by omega)] at HXX
    have HXX : Hid (entsOk hi lo l = leOk hi yt (l.drop (k + 1))) := by unfold Hid; rw [HXX.out]; simp
    go_wp2_with fail
    go_roundw
    case rel => exact ⟨k + 1, by omega, by go_num, by rw [HXS.out], by rw [HXS.out]; exact HXX, by first | rfl | trivial⟩
    case measure => simp [intOf]; omega
   ·obtain rfl : k = n := by omega
    have HXX : Hid (entsOk hi lo l = true) := by
     unfold Hid
     rw [HR.out, ← hN, List.drop_length]
     rfl
    clear HR
    generalize leAt lo l k = la at *
    go_wp2_with fail
    go_ret
    exact ⟨by rw [HXX.out]; rfl, rfl⟩
set_option maxHeartbeats 2000000 in
theorem sameEntS (l : List Ent) (va vb : Value) (w : World) (B : Nat) (ha : Lies w B 2 va (entR l)) (hb : Lies w B 2 vb (entR l)) (hn : l.length ≤ 1048576) :
  Calls Tryz.prog 50 #[va, vb] w fun e w' => e = .returned (.bool true) ∧ Like w w' := by
 obtain ⟨A, cap, rfl, hl⟩ := ent_look ha
 obtain ⟨A', cap', rfl, hl'⟩ := ent_look hb
 have HL : Hid (∀ j, j < l.length → ∃ g off, A = some ⟨g, off, none⟩ ∧ g < B ∧ _) := hl
 have HL' : Hid (∀ j, j < l.length → ∃ g off, A' = some ⟨g, off, none⟩ ∧ g < B ∧ _) := hl'
 have q1 : (l.length : Int) ≤ 1048576 := by omega
 clear hl hl' ha hb hn
 generalize hN : l.length = n at *
 clear hN
 go_enter Tryz.func50, Tryz.ntmps50
 go_wp2_with fail
 go_loopw [5] (fun v5 wr => ∃ k : Nat, k ≤ n ∧ v5 = .int .i64 (k : Int) ∧ Like w wr) (fun i _ => n - (intOf i).toNat)
 case atStart => exact ⟨0, by omega, rfl, Like.refl _⟩
 case round =>
  obtain ⟨k, hk, rfl, hLk⟩ := hrel
  have HLk : Hid (Like w wr) := hLk
  by_cases hlt : k < n
  ·have q4 : (k : Int) < (n : Int) := by omega
   obtain ⟨g, off, rfl, hg, a0, a1⟩ := HL.out k hlt
   obtain ⟨g', off', rfl, hg', b0, b1⟩ := HL'.out k hlt
   rw [← cell?_heap hLk.1] at a0 a1 b0 b1
   generalize (l.getD k default).term = xt at *
   generalize (l.getD k default).data = xd at *
   have S0 : Hid (wr.drew.cell? ⟨g, off + k * 2, none⟩ = some (.int .i64 xt) ∧ wr.drew.cell? ⟨g, off + k * 2 + 1, none⟩ = some (.string xd) ∧ wr.drew.cell? ⟨g', off' + k * 2, none⟩ = some (.int .i64 xt) ∧ wr.drew.cell? ⟨g', off' + k * 2 + 1, none⟩ = some (.string xd)) := ⟨a0, a1, b0, b1⟩
   have hx : (xd.toList == xd.toList) = true := by simp
   clear a0 a1 b0 b1 hg hg' hLk
   go_wp2_with fail
   refine wp_region_until (fun w' => w'.cell? ⟨g, off + k * 2, none⟩ = some (.int .i64 xt) ∧ w'.cell? ⟨g, off + k * 2 + 1, none⟩ = some (.string xd) ∧ w'.cell? ⟨g', off' + k * 2, none⟩ = some (.int .i64 xt) ∧ w'.cell? ⟨g', off' + k * 2 + 1, none⟩ = some (.string xd)) (fun _ => false) 9 (by rfl) (by kernel_rfl) ?_
   refine pUf 0 ?_
   refine pUf 1 ?_
   refine pUf 2 ?_
   refine tKf 3 S0.out ?_
   refine pUf 4 ?_
   refine pUf 5 ?_
   refine pUf 6 ?_
   refine tKf 7 S0.out ?_
   refine pUf 8 ?_
   refine until_done (by kernel_rfl) ?_ _
   go_wp2_with fail
   go_roundw
   case rel => exact ⟨k + 1, by omega, by go_num, HLk.out⟩
   case measure => simp [intOf]; omega
  ·obtain rfl : k = n := by omega
   go_wp2_with fail
   go_ret
   exact ⟨rfl, hLk⟩
set_option maxHeartbeats 1000000 in
theorem sameNil (n : Nat) (A : Option Addr) (cap : Nat) (w : World) (hn : n ≤ 1048576) :
  Calls Tryz.prog 50 #[.slice A n cap, .slice none 0 0] w fun e w' => e = .returned (.bool (decide (n = 0))) ∧ Like w w' := by
 have q1 : (n : Int) ≤ 1048576 := by omega
 by_cases h0 : n = 0
 ·subst h0
  go_enter Tryz.func50, Tryz.ntmps50
  go_wp2_with fail
  refine wp_loop_rounds 1 ?_
  rw [rounds_succ]
  go_wp2_with fail
  go_ret
  exact ⟨rfl, Like.refl _⟩
 ·have e0 : ((n : Int) == 0) = false := beq_eq_false_iff_ne.2 (by omega)
  have e1 : ((n : Int) != 0) = true := bne_iff_ne.2 (by omega)
  have HD : Hid (decide (n = 0) = false) := decide_eq_false h0
  go_enter Tryz.func50, Tryz.ntmps50
  go_wp2_with fail
  go_ret
  exact ⟨by rw [HD.out]; rfl, Like.refl _⟩
def samB (x z : Mg) : Bool := decide (x.kind = z.kind) && decide (x.frm = z.frm) && decide (x.dst = z.dst) && decide (x.term = z.term) && decide (x.index = z.index) && decide (x.iterm = z.iterm) && decide (x.commit = z.commit) && decide (x.yes = z.yes) && decide (x.data = z.data) && decide (x.ents.length = z.ents.length)
set_option maxHeartbeats 8000000 in
theorem sameV (x z : Mg) (u uz : Value) (w : World) (B : Nat) (hx : Lies w B 2 u (entR x.ents)) (hz : (uz = u ∧ z.ents = x.ents) ∨ (uz = .slice none 0 0 ∧ z.ents = [])) (hl : x.ents.length ≤ 1048576) (hB : B ≤ w.heap.size) : Calls Tryz.prog 25 #[vMg x u, vMg z uz] w fun e w' => e = .returned (.bool (samB x z)) ∧ Below w.heap.size w w' := by
 obtain ⟨A, cap, rfl, _⟩ := ent_look hx
 have hc : ∀ wx, Below w.heap.size w wx → Calls Tryz.prog 50 #[.slice A x.ents.length cap, uz] wx fun e w' => e = .returned (.bool (decide (x.ents.length = z.ents.length))) ∧ Below wx.heap.size wx w' := fun wx hw => by
  rcases hz with ⟨rfl, e⟩ | ⟨rfl, e⟩
  ·refine (sameEntS x.ents _ _ wx B (hx.on (hw.mono hB)) (hx.on (hw.mono hB)) hl).mono ?_
   rintro b w' ⟨rfl, h⟩
   exact ⟨by rw [e]; simp, h.below⟩
  ·refine (sameNil x.ents.length A cap wx hl).mono ?_
   rintro b w' ⟨rfl, h⟩
   exact ⟨by rw [e]; rfl, h.below⟩
 clear hx hz hl hB
 obtain ⟨k, f, d, t, i, it, c, y, es, da⟩ := x
 obtain ⟨k', f', d', t', i', it', c', y', es', da'⟩ := z
 simp only at hc
 have HE : Hid (samB ⟨k, f, d, t, i, it, c, y, es, da⟩ ⟨k', f', d', t', i', it', c', y', es', da'⟩ = (decide (k = k') && decide (f = f') && decide (d = d') && decide (t = t') && decide (i = i') && decide (it = it') && decide (c = c') && decide (y = y') && decide (da = da') && decide (es.length = es'.length))) := rfl
 have HB : Hid (∀ a b, Below w.heap.size w ((w.alloc (.cells a 29)).alloc (.cells b 29))) := fun a b => ((Below.refl _ _).alloc (Nat.le_refl _) _).alloc (by simp) _
 generalize decide (es.length = es'.length) = be at *
 generalize es.length = n at *
 unfold vMg
 simp only
 go_enter Tryz.func25, Tryz.ntmps25
 by_cases hk : k = k'
 rotate_left
 ·have e1 : (k == k') = false := beq_eq_false_iff_ne.2 hk
  have e2 : (k != k') = true := bne_iff_ne.2 hk
  rw [decide_eq_false hk] at HE
  go_wp2_with fail
  go_ret
  exact ⟨by rw [HE.out]; simp, HB.out _ _⟩
 subst hk
 by_cases hf : f = f'
 rotate_left
 ·have e1 : (f == f') = false := beq_eq_false_iff_ne.2 hf
  have e2 : (f != f') = true := bne_iff_ne.2 hf
  rw [decide_eq_false hf] at HE
  go_wp2_with fail
  go_ret
  exact ⟨by rw [HE.out]; simp, HB.out _ _⟩
 subst hf
 by_cases hd : d = d'
 rotate_left
 ·have e1 : (d == d') = false := beq_eq_false_iff_ne.2 hd
  have e2 : (d != d') = true := bne_iff_ne.2 hd
  rw [decide_eq_false hd] at HE
  go_wp2_with fail
  go_ret
  exact ⟨by rw [HE.out]; simp, HB.out _ _⟩
 subst hd
 by_cases ht : t = t'
 rotate_left
 ·have e1 : (t == t') = false := beq_eq_false_iff_ne.2 ht
  have e2 : (t != t') = true := bne_iff_ne.2 ht
  rw [decide_eq_false ht] at HE
  go_wp2_with fail
  go_ret
  exact ⟨by rw [HE.out]; simp, HB.out _ _⟩
 subst ht
 by_cases hi : i = i'
 rotate_left
 ·have e1 : (i == i') = false := beq_eq_false_iff_ne.2 hi
  have e2 : (i != i') = true := bne_iff_ne.2 hi
  rw [decide_eq_false hi] at HE
  go_wp2_with fail
  go_ret
  exact ⟨by rw [HE.out]; simp, HB.out _ _⟩
 subst hi
 by_cases hit : it = it'
 rotate_left
 ·have e1 : (it == it') = false := beq_eq_false_iff_ne.2 hit
  have e2 : (it != it') = true := bne_iff_ne.2 hit
  rw [decide_eq_false hit] at HE
  go_wp2_with fail
  go_ret
  exact ⟨by rw [HE.out]; simp, HB.out _ _⟩
 subst hit
 by_cases hc : c = c'
 rotate_left
 ·have e1 : (c == c') = false := beq_eq_false_iff_ne.2 hc
  have e2 : (c != c') = true := bne_iff_ne.2 hc
  rw [decide_eq_false hc] at HE
  go_wp2_with fail
  go_ret
  exact ⟨by rw [HE.out]; simp, HB.out _ _⟩
 subst hc
 by_cases hy : y = y'
 rotate_left
 ·have e2 : (y != y') = true := bne_iff_ne.2 hy
  rw [decide_eq_false hy] at HE
  go_wp2_with fail
  go_ret
  exact ⟨by rw [HE.out]; simp, HB.out _ _⟩
 subst hy
 have ey : (y != y) = false := by cases y <;> rfl
 by_cases hda : da = da'
 rotate_left
 ·obtain ⟨e0, e1, e2⟩ := text_neqC hda
  rw [decide_eq_false hda] at HE
  go_wp2_with fail
  go_ret
  exact ⟨by rw [HE.out]; simp, HB.out _ _⟩
 subst hda
 have ed : (da.toList == da.toList) = true := by simp
 have ed2 : (da.toList != da.toList) = false := by simp
 go_wp2_with fail
 refine (hc _ (HB.out _ _)).mono ?_
 rintro e w' ⟨rfl, hb⟩
 have BF := Hid.mkM ((HB.out _ _).trans (hb.mono (HB.out _ _).size))
 clear hb hc
 go_wp2_with fail
 go_ret
 exact ⟨by rw [HE.out]; simp, BF.out⟩
end Go.Proofs.YtimfnbnffibgpaaGreatDoor
namespace Go.Proofs.YtimfnbnffibgpaaGreatDoor
open Go.ChangeShapes Go.WideShapes Go.ChangeAt Go.RowKit Go.PlainAid
set_option linter.unusedVariables false
theorem ansOk_in {x : Ans} (h : ansOk x = true) : (0 ≤ x.code ∧ x.code ≤ 4) ∧ (0 ≤ x.index ∧ x.index ≤ 100000) ∧ (0 ≤ x.mark ∧ x.mark ≤ 1099511627776) ∧ x.data.size ≤ 900 := by
 unfold ansOk inRg at h
 simp only [Bool.and_eq_true, decide_eq_true_eq] at h
 omega
set_option maxHeartbeats 2000000 in
theorem specShowAnswer (x : Ans) (w : World) (hd : x.data.size ≤ maxLen) : Calls Tryz.prog 49 #[vAns x] w fun e w' => e = .returned (.string (ansT x)) ∧ Below w.heap.size w w' := by
 have c0 := fun wx => specAnswerOk x wx hd
 have hb0 := below_a1 w (.cells #[.int .i64 x.code, .int .i64 x.index, .int .i64 x.mark, .string x.data] 48)
 have k0 := Cell4.new w x 48
 cases ho : ansOk x
 ·have HT : Hid (ansT x = ⟨#[]⟩) := by unfold Hid ansT; rw [ho]; rfl
  rw [ho] at c0
  unfold vAns at *
  clear ho hd k0
  go_enter Tryz.func49, Tryz.ntmps49
  go_wp2_with fail
  generalize w.alloc (.cells #[.int .i64 x.code, .int .i64 x.index, .int .i64 x.mark, .string x.data] 48) = W at *
  refine (c0 _).mono ?_
  rintro e w1 ⟨rfl, hb1⟩
  have B1 : Hid (Below w.heap.size w w1) := hb0.trans (hb1.mono hb0.size)
  clear hb0 hb1 c0
  go_wp2_with fail
  go_ret
  exact ⟨by rw [HT.out]; rfl, B1.out⟩
 obtain ⟨⟨a1, a2⟩, ⟨a3, a4⟩, ⟨a5, a6⟩, a7⟩ := ansOk_in ho
 have HT : Hid (ansT x = txt (vF 6 x.code.toNat) ++ txt (vF 6 x.index.toNat) ++ txt (vF 6 x.mark.toNat) ++ x.data) := by unfold Hid ansT; rw [if_pos ho]
 rw [ho] at c0
 clear ho hd
 obtain ⟨c, i, m, d⟩ := x
 simp only at *
 obtain ⟨cn, rfl⟩ : ∃ cn : Nat, c = (cn : Int) := ⟨c.toNat, by omega⟩
 obtain ⟨jn, rfl⟩ : ∃ cn : Nat, i = (cn : Int) := ⟨i.toNat, by omega⟩
 obtain ⟨mn, rfl⟩ : ∃ cn : Nat, m = (cn : Int) := ⟨m.toNat, by omega⟩
 simp only [Int.toNat_natCast] at HT
 have c1 := fun wx => spec_var cn wx (by omega)
 have c2 := fun wx => spec_var jn wx (by omega)
 have c3 := fun wx => spec_var mn wx (by omega)
 have l1 : (txt (vF 6 cn)).size ≤ 7 := by rw [txt_size]; exact vF_length 6 cn
 have l2 : (txt (vF 6 jn)).size ≤ 7 := by rw [txt_size]; exact vF_length 6 jn
 have l3 : (txt (vF 6 mn)).size ≤ 7 := by rw [txt_size]; exact vF_length 6 mn
 generalize txt (vF 6 cn) = t1 at *
 generalize txt (vF 6 jn) = t2 at *
 generalize txt (vF 6 mn) = t3 at *
 have p1 : ¬ 9223372036854775807 < t1.size + t2.size := by omega
 have p2 : ¬ 9223372036854775807 < t1.size + t2.size + t3.size := by omega
 have p3 : ¬ 9223372036854775807 < t1.size + t2.size + t3.size + d.size := by omega
 clear a1 a2 a3 a4 a5 a6 a7 l1 l2 l3
 unfold vAns at *
 simp only at *
 go_enter Tryz.func49, Tryz.ntmps49
 go_wp2_with fail
 generalize w.alloc (.cells #[.int .i64 (cn : Int), .int .i64 (jn : Int), .int .i64 (mn : Int), .string d] 48) = W at *
 refine (c0 _).mono ?_
 rintro e y1 ⟨rfl, hb1⟩
 have B1 : Hid (Below w.heap.size w y1) := hb0.trans (hb1.mono hb0.size)
 have Q1 := Hid.mk (k0.on hb1 k0.2.2.2.2 (Nat.le_refl _))
 clear hb0 hb1 c0 k0
 go_wp2_with fail
 have SS : Hid (y1.drew.cell? ⟨w.heap.size, 0, none⟩ = some (.int .i64 (cn : Int)) ∧ y1.drew.cell? ⟨w.heap.size, 1, none⟩ = some (.int .i64 (jn : Int)) ∧ y1.drew.cell? ⟨w.heap.size, 2, none⟩ = some (.int .i64 (mn : Int)) ∧ y1.drew.cell? ⟨w.heap.size, 3, none⟩ = some (.string d)) := ⟨Q1.out.1, Q1.out.2.1, Q1.out.2.2.1, Q1.out.2.2.2.1⟩
 have B1' : Hid (Below w.heap.size w y1.drew) := B1.out.drew
 have Q1' : Hid (Cell4 y1.drew w.heap.size ⟨(cn : Int), (jn : Int), (mn : Int), d⟩) := Q1.out
 refine wp_region_until (fun w' => w'.cell? ⟨w.heap.size, 0, none⟩ = some (.int .i64 (cn : Int)) ∧ w'.cell? ⟨w.heap.size, 1, none⟩ = some (.int .i64 (jn : Int)) ∧ w'.cell? ⟨w.heap.size, 2, none⟩ = some (.int .i64 (mn : Int)) ∧ w'.cell? ⟨w.heap.size, 3, none⟩ = some (.string d)) (fun i => false) 15 (by rfl) (by kernel_rfl) ?_
 clear Q1 B1
 generalize y1.drew = y0 at *
 have B1 := B1'
 have Q1 := Q1'
 clear B1' Q1'
 refine tKf 0 SS.out ?_
 refine tKf 1 SS.out ?_
 refine tKf 3 SS.out ?_
 refine tKf 4 SS.out ?_
 refine tKf 7 SS.out ?_
 refine tKf 8 SS.out ?_
 refine tKf 11 SS.out ?_
 refine tKf 12 SS.out ?_
 refine uNe 2 (fun K hK => ?_)
 go_simp
 refine (c1 _).mono ?_
 rintro e y2 ⟨rfl, hb⟩
 have B2 : Hid (Below w.heap.size w y2) := B1.out.trans (hb.mono B1.out.size)
 have Q2 := Hid.mk (Q1.out.on hb Q1.out.2.2.2.2 (Nat.le_refl _))
 clear hb SS Q1 B1
 have SS : Hid (y2.cell? ⟨w.heap.size, 0, none⟩ = some (.int .i64 (cn : Int)) ∧ y2.cell? ⟨w.heap.size, 1, none⟩ = some (.int .i64 (jn : Int)) ∧ y2.cell? ⟨w.heap.size, 2, none⟩ = some (.int .i64 (mn : Int)) ∧ y2.cell? ⟨w.heap.size, 3, none⟩ = some (.string d)) := ⟨Q2.out.1, Q2.out.2.1, Q2.out.2.2.1, Q2.out.2.2.2.1⟩
 go_wp2_with fail
 refine hK.out _ _ (fun _ _ => SS.out) ?_
 clear hK K
 try simp only [Act.put, zQ1, zQ2, zQ3]
 refine uNe 5 (fun K hK => ?_)
 go_simp
 refine (c2 _).mono ?_
 rintro e y3 ⟨rfl, hb⟩
 have B3 : Hid (Below w.heap.size w y3) := B2.out.trans (hb.mono B2.out.size)
 have Q3 := Hid.mk (Q2.out.on hb Q2.out.2.2.2.2 (Nat.le_refl _))
 clear hb SS Q2 B2
 have SS : Hid (y3.cell? ⟨w.heap.size, 0, none⟩ = some (.int .i64 (cn : Int)) ∧ y3.cell? ⟨w.heap.size, 1, none⟩ = some (.int .i64 (jn : Int)) ∧ y3.cell? ⟨w.heap.size, 2, none⟩ = some (.int .i64 (mn : Int)) ∧ y3.cell? ⟨w.heap.size, 3, none⟩ = some (.string d)) := ⟨Q3.out.1, Q3.out.2.1, Q3.out.2.2.1, Q3.out.2.2.2.1⟩
 go_wp2_with fail
 refine hK.out _ _ (fun _ _ => SS.out) ?_
 clear hK K
 try simp only [Act.put, zQ1, zQ2, zQ3]
 refine pUf 6 ?_
 refine uNe 9 (fun K hK => ?_)
 go_simp
 refine (c3 _).mono ?_
 rintro e y4 ⟨rfl, hb⟩
 have B4 : Hid (Below w.heap.size w y4) := B3.out.trans (hb.mono B3.out.size)
 have Q4 := Hid.mk (Q3.out.on hb Q3.out.2.2.2.2 (Nat.le_refl _))
 clear hb SS Q3 B3
 have SS : Hid (y4.cell? ⟨w.heap.size, 0, none⟩ = some (.int .i64 (cn : Int)) ∧ y4.cell? ⟨w.heap.size, 1, none⟩ = some (.int .i64 (jn : Int)) ∧ y4.cell? ⟨w.heap.size, 2, none⟩ = some (.int .i64 (mn : Int)) ∧ y4.cell? ⟨w.heap.size, 3, none⟩ = some (.string d)) := ⟨Q4.out.1, Q4.out.2.1, Q4.out.2.2.1, Q4.out.2.2.2.1⟩
 go_wp2_with fail
 refine hK.out _ _ (fun _ _ => SS.out) ?_
 clear hK K
 try simp only [Act.put, zQ1, zQ2, zQ3]
 refine pUf 10 ?_
 refine pUf 13 ?_
 refine pUf 14 ?_
 refine until_done (by kernel_rfl) ?_ _
 go_wp2_with fail
 go_ret
 exact ⟨by rw [HT.out]; rfl, B4.out⟩
end Go.Proofs.YtimfnbnffibgpaaGreatDoor
