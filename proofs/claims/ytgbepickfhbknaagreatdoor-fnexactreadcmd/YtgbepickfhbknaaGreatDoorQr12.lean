/- CmCmdP LawReadCmd -/
import Derived.Test.YtgbepickfhbknaaGreatDoorRows
import Derived.Test.YtgbepickfhbknaaGreatDoorQr11
import Derived.Test.YtgbepickfhbknaaGreatDoorQr1
open List (setIfInBounds_toArray set_cons_zero set_cons_succ)
namespace Go.Proofs.YtgbepickfhbknaaGreatDoor
open Go.ChangeShapes Go.WideShapes Go.ChangeAt Go.RowKit Go.PlainAid
set_option linter.unusedVariables false
theorem opOk_zero : opOk ⟨0, ⟨#[]⟩, 0, 0, ⟨#[]⟩⟩ = false := by
 cases h : opOk ⟨0, ⟨#[]⟩, 0, 0, ⟨#[]⟩⟩
 ·rfl
 ·have := (opOk_in h).1.1
  simp at this
theorem cmdT_back {s : ByteArray} {c i : Int} {n : Nat} {o : Opx} (h : RdF s 0 2 [c, i] n) (ho : OpRd (lf s n) o) (ht : trnOk ⟨c, i, o⟩ = true) : cmdT ⟨c, i, o⟩ = s := by
 have h1 := h.text
 have h2 := cut_in_two s n (h.ge.2 (by omega))
 obtain ⟨e1, e2⟩ := ho.back
 unfold cmdT
 rw [if_pos (by rw [ht, e2]; rfl)]
 simp only
 rw [e1]
 conv => rhs; rw [h2, h1]
 simp [varsT, ByteArray.append_assoc]
set_option maxHeartbeats 4000000 in
theorem specReadCmd (s : ByteArray) (w : World) (hs : s.size ≤ 1048576) :
  Calls Tryz.prog 4 #[.string s] w fun e w' => CmdA s e ∧ Below w.heap.size w w' := by
 have c := fun wx => specVars s 0 2 wx hs (by omega) (by omega)
 have k0 := Blk.new w #[.int .i64 0, .int .i64 0, .int .i64 0, .string ⟨#[]⟩, .int .i64 0, .int .i64 0, .string ⟨#[]⟩] 25
 have hb0 := (Below.refl w.heap.size w).alloc (Nat.le_refl _) (.cells #[.int .i64 0, .int .i64 0, .int .i64 0, .string ⟨#[]⟩, .int .i64 0, .int .i64 0, .string ⟨#[]⟩] 25)
 have HS : Hid (s.size ≤ 1048576) := hs
 have q2 : (s.size : Int) ≤ 1048576 := by omega
 clear hs
 go_enter Tryz.func4, Tryz.ntmps4
 go_wp2_with fail
 generalize w.alloc (.cells #[.int .i64 0, .int .i64 0, .int .i64 0, .string ⟨#[]⟩, .int .i64 0, .int .i64 0, .string ⟨#[]⟩] 25) = X at *
 refine (c _).mono ?_
 rintro e w1 ⟨hR, hb1⟩
 have k1 := Hid.mk (k0.on hb1 k0.lt)
 have B1 : Hid (Below w.heap.size w w1) := hb0.trans (hb1.mono hb0.size)
 clear hb1 k0 c
 rcases hR with ⟨l, n, u, hR, rfl, hN⟩ | ⟨hno, u, rfl⟩
 rotate_left
 ·have HN : Hid (∀ x, ¬ CmdRd s x) := by
   rintro x ⟨c, i, n, h1, _⟩
   exact hno _ _ h1
  clear hno hb0
  obtain ⟨⟨r0, s0⟩, ⟨r1, s1⟩, ⟨r2, s2⟩, ⟨r3, s3⟩, ⟨r4, s4⟩, ⟨r5, s5⟩, ⟨r6, s6⟩, y0, y1, y2, y3, y4, y5, y6⟩ := resC7 (x0 := .int .i64 0) (x1 := .int .i64 0) (x2 := .int .i64 0) (x3 := .string ⟨#[]⟩) (x4 := .int .i64 0) (x5 := .int .i64 0) (x6 := .string ⟨#[]⟩) k1.out
  have BZ := Hid.mk (belowC7 B1.out (Nat.le_refl _) (.int .i64 0) (.int .i64 0) (.int .i64 0) (.string ⟨#[]⟩) (.int .i64 0) (.int .i64 0) (.string ⟨#[]⟩))
  go_wp2_with fail
  exact bodyPost_ret (v := .tuple #[.agg #[.int .i64 0, .int .i64 0, .int .i64 0, .string ⟨#[]⟩, .int .i64 0, .int .i64 0, .string ⟨#[]⟩], .bool false]) (by simp [results, go_sem, y0, y1, y2, y3, y4, y5, y6]) rfl ⟨.inr ⟨HN.out, rfl⟩, BZ.out⟩
 have hl := hR.length
 obtain ⟨z0, z1, rfl⟩ : ∃ a b, l = [a, b] := by
  match l, hl with
  | [a, b], _ => exact ⟨a, b, rfl⟩
 have HR : Hid (RdF s 0 2 [z0, z1] n) := hR
 have hns := hR.ge.2 (by omega)
 have hn1 := hR.ge.1
 obtain ⟨g, cap, rfl, hg1, hg2⟩ := hN.full1 (by simp)
 have e0 : w1.cell? ⟨g, 0, none⟩ = some (.int .i64 z0) := hN.cell 0 (by simp)
 have e1 : w1.cell? ⟨g, 1, none⟩ = some (.int .i64 z1) := hN.cell 1 (by simp)
 have hlen : [z0, z1].length = 2 := rfl
 rw [hlen] at *
 have HG : Hid (g < w1.heap.size) := hg2
 have q1 : (n : Int) ≤ (s.size : Int) := by omega
 have q3 : decide ((n : Int) < 0) = false := decide_eq_false (by omega)
 have HNE : Hid (¬ s = ⟨#[]⟩) := by
  intro e
  rw [e] at hns
  have h0 : (⟨#[]⟩ : ByteArray).size = 0 := rfl
  omega
 have c2 := fun wx => specReadOp (lf s n) wx (by rw [lf_size]; have := HS.out; omega)
 have HEX : Hid (s.extract n s.size = lf s n) := rfl
 clear hR hl hN hb0 hg1 hg2 hlen hns hn1
 go_wp2_with fail
 rw [HEX.out]
 refine (c2 _).mono ?_
 rintro e w2 ⟨hA, hb2⟩
 have k2 := Hid.mk (k1.out.on hb2 k1.out.lt)
 have B2 : Hid (Below w.heap.size w w2) := B1.out.trans (hb2.mono B1.out.size)
 have f0 : w2.cell? ⟨g, 0, none⟩ = some (.int .i64 z0) := by rw [hb2.cell HG.out]; exact e0
 have f1 : w2.cell? ⟨g, 1, none⟩ = some (.int .i64 z1) := by rw [hb2.cell HG.out]; exact e1
 have HG2 : Hid (g < w2.heap.size) := Nat.lt_of_lt_of_le HG.out hb2.size
 clear hb2 k1 B1 c2 e0 e1 HG
 obtain ⟨o, b, rfl, HX1, HX2, HZ1, HZ2⟩ : ∃ o b, e = .returned (.tuple #[vOp o, .bool b]) ∧ Hid ((trnOk ⟨z0, z1, o⟩ && opOk o) = true → CmdRd s ⟨z0, z1, o⟩ ∧ cmdT ⟨z0, z1, o⟩ = s) ∧ Hid ((trnOk ⟨z0, z1, o⟩ && opOk o) = false → (∀ x, ¬ CmdRd s x) ∧ cmdT ⟨z0, z1, o⟩ = ⟨#[]⟩) ∧ Hid (o.key.size ≤ maxLen) ∧ Hid (o.data.size ≤ 1048576) := by
  rcases hA with ⟨o, ho, rfl⟩ | ⟨hno, rfl⟩
  ·refine ⟨o, true, rfl, ?_, ?_, ?_, ?_⟩
   ·intro h
    rw [Bool.and_eq_true] at h
    exact ⟨⟨z0, z1, n, HR.out, ho, rfl, rfl, h.1⟩, cmdT_back HR.out ho h.1⟩
   ·intro h
    refine ⟨?_, by unfold cmdT; simp only; rw [h]; rfl⟩
    rintro ⟨a, b, o'⟩ ⟨c, i, n', h1, h2, h3, h4, h5⟩
    obtain ⟨e, rfl⟩ := h1.one HR.out
    simp only [List.cons.injEq, and_true] at e
    obtain ⟨rfl, rfl⟩ := e
    simp only at h2 h3 h4
    rw [h3, h4, h2.one ho] at h5
    rw [h5, ho.back.2] at h
    cases h
   ·have := (opOk_in ho.back.2).2.1
    unfold Hid
    simp only [maxLen]
    omega
   ·obtain ⟨k, n1, f, t, m, h0, h1, h2, h3, rfl, h5⟩ := ho
    have := HS.out
    unfold Hid
    simp only [lf_size]
    omega
  ·refine ⟨_, false, rfl, ?_, ?_, ?_, ?_⟩
   ·intro h
    rw [opOk_zero, Bool.and_false] at h
    cases h
   ·intro h
    refine ⟨?_, by unfold cmdT; simp only; rw [h]; rfl⟩
    rintro x ⟨c, i, n', h1, h2, _⟩
    obtain ⟨_, rfl⟩ := h1.one HR.out
    exact hno _ h2
   ·show (⟨#[]⟩ : ByteArray).size ≤ maxLen
    exact Nat.zero_le _
   ·show (⟨#[]⟩ : ByteArray).size ≤ 1048576
    exact Nat.zero_le _
 clear hA
 unfold vOp
 have kO := Hid.mk (Blk.new w2 #[.int .i64 o.kind, .string o.key, .int .i64 o.frm, .int .i64 o.til, .string o.data] 23)
 have k3 := Hid.mk (k2.out.alloc (.cells #[.int .i64 o.kind, .string o.key, .int .i64 o.frm, .int .i64 o.til, .string o.data] 23))
 have B3 : Hid (Below w.heap.size w (w2.alloc (.cells #[.int .i64 o.kind, .string o.key, .int .i64 o.frm, .int .i64 o.til, .string o.data] 23))) := B2.out.alloc B2.out.size _
 have hbo := below_c1 w2 (.cells #[.int .i64 o.kind, .string o.key, .int .i64 o.frm, .int .i64 o.til, .string o.data] 23)
 have h0 : (w2.alloc (.cells #[.int .i64 o.kind, .string o.key, .int .i64 o.frm, .int .i64 o.til, .string o.data] 23)).cell? ⟨g, 0, none⟩ = some (.int .i64 z0) := by rw [hbo.cell HG2.out]; exact f0
 have h1 : (w2.alloc (.cells #[.int .i64 o.kind, .string o.key, .int .i64 o.frm, .int .i64 o.til, .string o.data] 23)).cell? ⟨g, 1, none⟩ = some (.int .i64 z1) := by rw [hbo.cell HG2.out]; exact f1
 have HG3 : Hid (g < (w2.alloc (.cells #[.int .i64 o.kind, .string o.key, .int .i64 o.frm, .int .i64 o.til, .string o.data] 23)).heap.size) := Nat.lt_of_lt_of_le HG2.out hbo.size
 clear f0 f1 hbo k2 B2 HG2
 go_wp2_with fail
 generalize w2.heap.size = go at *
 generalize w2.alloc (.cells #[.int .i64 o.kind, .string o.key, .int .i64 o.frm, .int .i64 o.til, .string o.data] 23) = Y1 at *
 have SS : Hid (Y1.drew.cell? ⟨g, 0, none⟩ = some (.int .i64 z0) ∧ Y1.drew.cell? ⟨g, 1, none⟩ = some (.int .i64 z1) ∧ Y1.drew.cell? ⟨go, 0, none⟩ = some (.int .i64 o.kind) ∧ Y1.drew.cell? ⟨go, 1, none⟩ = some (.string o.key) ∧ Y1.drew.cell? ⟨go, 2, none⟩ = some (.int .i64 o.frm) ∧ Y1.drew.cell? ⟨go, 3, none⟩ = some (.int .i64 o.til) ∧ Y1.drew.cell? ⟨go, 4, none⟩ = some (.string o.data)) := ⟨h0, h1, kO.out.cell 0 _ rfl, kO.out.cell 1 _ rfl, kO.out.cell 2 _ rfl, kO.out.cell 3 _ rfl, kO.out.cell 4 _ rfl⟩
 refine wp_region_until (fun w' => w'.cell? ⟨g, 0, none⟩ = some (.int .i64 z0) ∧ w'.cell? ⟨g, 1, none⟩ = some (.int .i64 z1) ∧ w'.cell? ⟨go, 0, none⟩ = some (.int .i64 o.kind) ∧ w'.cell? ⟨go, 1, none⟩ = some (.string o.key) ∧ w'.cell? ⟨go, 2, none⟩ = some (.int .i64 o.frm) ∧ w'.cell? ⟨go, 3, none⟩ = some (.int .i64 o.til) ∧ w'.cell? ⟨go, 4, none⟩ = some (.string o.data)) (fun i => i == 9) 10 (by rfl) (by kernel_rfl) ?_
 have B3' : Hid (Below w.heap.size w Y1.drew) := B3.out.drew
 have k3' : Hid (Blk Y1.drew w.heap.size #[.int .i64 0, .int .i64 0, .int .i64 0, .string ⟨#[]⟩, .int .i64 0, .int .i64 0, .string ⟨#[]⟩] 25) := k3.out
 have HG4 : Hid (g < Y1.drew.heap.size) := HG3.out
 have HG5 : Hid (go < Y1.drew.heap.size) := kO.out.lt
 clear k3 B3 HG3 kO h0 h1
 generalize Y1.drew = Y at *
 refine until_pure 0 (v := ?_) (by rfl) (by kernel_rfl) (by exact fun _ _ _ h => h) (by rfl) ?_ ?_
 rotate_left
 ·intro w
  go_simp
  try with_reducible rfl
 try simp only [Act.put, setIfInBounds_toArray, set_cons_zero, set_cons_succ]
 refine until_pure 1 (v := ?_) (by rfl) (by kernel_rfl) (by exact fun _ _ _ h => h) (by rfl) ?_ ?_
 rotate_left
 ·intro w
  go_simp
  try with_reducible rfl
 try simp only [Act.put, setIfInBounds_toArray, set_cons_zero, set_cons_succ]
 refine until_take 2 (v := ?_) (by rfl) (by kernel_rfl) (by exact fun _ _ _ h => h) (by rfl) ?_ SS.out ?_
 rotate_left
 ·intro w hSw
  try dsimp only at hSw
  go_simp
  try with_reducible rfl
 try simp only [Act.put, setIfInBounds_toArray, set_cons_zero, set_cons_succ]
 refine until_pure 3 (v := ?_) (by rfl) (by kernel_rfl) (by exact fun _ _ _ h => h) (by rfl) ?_ ?_
 rotate_left
 ·intro w
  go_simp
  try with_reducible rfl
 try simp only [Act.put, setIfInBounds_toArray, set_cons_zero, set_cons_succ]
 refine until_pure 4 (v := ?_) (by rfl) (by kernel_rfl) (by exact fun _ _ _ h => h) (by rfl) ?_ ?_
 rotate_left
 ·intro w
  go_simp
  try with_reducible rfl
 try simp only [Act.put, setIfInBounds_toArray, set_cons_zero, set_cons_succ]
 refine until_take 5 (v := ?_) (by rfl) (by kernel_rfl) (by exact fun _ _ _ h => h) (by rfl) ?_ SS.out ?_
 rotate_left
 ·intro w hSw
  try dsimp only at hSw
  go_simp
  try with_reducible rfl
 try simp only [Act.put, setIfInBounds_toArray, set_cons_zero, set_cons_succ]
 refine until_take 6 (v := ?_) (by rfl) (by kernel_rfl) (by exact fun _ _ _ h => h) (by rfl) ?_ SS.out ?_
 rotate_left
 ·intro w hSw
  try dsimp only at hSw
  go_simp
  try with_reducible rfl
 try simp only [Act.put, setIfInBounds_toArray, set_cons_zero, set_cons_succ]
 refine until_pure 7 (v := ?_) (by rfl) (by kernel_rfl) (by exact fun _ _ _ h => h) (by rfl) ?_ ?_
 rotate_left
 ·intro w
  go_simp
  try with_reducible rfl
 try simp only [Act.put, setIfInBounds_toArray, set_cons_zero, set_cons_succ]
 refine until_one 8 (by rfl) (by kernel_rfl) (fun K hK => ?_)
 go_simp
 have S2 : Hid ((Y.alloc (.cells #[.int .i64 0, .int .i64 0, .int .i64 0, .string ⟨#[]⟩, .int .i64 0, .int .i64 0, .string ⟨#[]⟩] 25)).cell? ⟨g, 0, none⟩ = some (.int .i64 z0) ∧ (Y.alloc (.cells #[.int .i64 0, .int .i64 0, .int .i64 0, .string ⟨#[]⟩, .int .i64 0, .int .i64 0, .string ⟨#[]⟩] 25)).cell? ⟨g, 1, none⟩ = some (.int .i64 z1) ∧ (Y.alloc (.cells #[.int .i64 0, .int .i64 0, .int .i64 0, .string ⟨#[]⟩, .int .i64 0, .int .i64 0, .string ⟨#[]⟩] 25)).cell? ⟨go, 0, none⟩ = some (.int .i64 o.kind) ∧ (Y.alloc (.cells #[.int .i64 0, .int .i64 0, .int .i64 0, .string ⟨#[]⟩, .int .i64 0, .int .i64 0, .string ⟨#[]⟩] 25)).cell? ⟨go, 1, none⟩ = some (.string o.key) ∧ (Y.alloc (.cells #[.int .i64 0, .int .i64 0, .int .i64 0, .string ⟨#[]⟩, .int .i64 0, .int .i64 0, .string ⟨#[]⟩] 25)).cell? ⟨go, 2, none⟩ = some (.int .i64 o.frm) ∧ (Y.alloc (.cells #[.int .i64 0, .int .i64 0, .int .i64 0, .string ⟨#[]⟩, .int .i64 0, .int .i64 0, .string ⟨#[]⟩] 25)).cell? ⟨go, 3, none⟩ = some (.int .i64 o.til) ∧ (Y.alloc (.cells #[.int .i64 0, .int .i64 0, .int .i64 0, .string ⟨#[]⟩, .int .i64 0, .int .i64 0, .string ⟨#[]⟩] 25)).cell? ⟨go, 4, none⟩ = some (.string o.data)) := by
  have hb := below_c1 Y (.cells #[.int .i64 0, .int .i64 0, .int .i64 0, .string ⟨#[]⟩, .int .i64 0, .int .i64 0, .string ⟨#[]⟩] 25)
  exact ⟨by rw [hb.cell HG4.out]; exact SS.out.1, by rw [hb.cell HG4.out]; exact SS.out.2.1, by rw [hb.cell HG5.out]; exact SS.out.2.2.1, by rw [hb.cell HG5.out]; exact SS.out.2.2.2.1, by rw [hb.cell HG5.out]; exact SS.out.2.2.2.2.1, by rw [hb.cell HG5.out]; exact SS.out.2.2.2.2.2.1, by rw [hb.cell HG5.out]; exact SS.out.2.2.2.2.2.2⟩
 refine hK.out _ _ (fun _ _ => S2.out) ?_
 clear hK K
 try simp only [Act.put, setIfInBounds_toArray, set_cons_zero, set_cons_succ]
 refine until_one 9 (by rfl) (by kernel_rfl) (fun K hK => ?_)
 go_simp
 refine hK.out _ _ (fun h => by cases h) ?_
 clear hK K
 try simp only [Act.put, setIfInBounds_toArray, set_cons_zero, set_cons_succ]
 refine until_done (by kernel_rfl) ?_ _
 have kA := Blk.new Y #[.int .i64 z0, .int .i64 z1, .int .i64 o.kind, .string o.key, .int .i64 o.frm, .int .i64 o.til, .string o.data] 25
 have kR := k3'.out.alloc (.cells #[.int .i64 z0, .int .i64 z1, .int .i64 o.kind, .string o.key, .int .i64 o.frm, .int .i64 o.til, .string o.data] 25)
 have hbA := B3'.out.alloc B3'.out.size (.cells #[.int .i64 z0, .int .i64 z1, .int .i64 o.kind, .string o.key, .int .i64 o.frm, .int .i64 o.til, .string o.data] 25)
 obtain ⟨c0, c1, c2, c3, c4, c5, c6⟩ := cellsC7 kA
 have ct := fun wx => specShowCmd ⟨z0, z1, o⟩ wx HZ1.out HZ2.out
 unfold vCmd at ct
 simp only at ct
 clear S2 SS k3' B3'
 go_wp2_with fail
 generalize Y.alloc (.cells #[.int .i64 z0, .int .i64 z1, .int .i64 o.kind, .string o.key, .int .i64 o.frm, .int .i64 o.til, .string o.data] 25) = V at *
 refine (ct _).mono ?_
 rintro e w3 ⟨rfl, hb⟩
 have A2 := Hid.mk (kA.on hb kA.lt)
 have R2 := Hid.mk (kR.on hb kR.lt)
 have B4 : Hid (Below w.heap.size w w3) := hbA.trans (hb.mono hbA.size)
 clear hb kA kR hbA c0 c1 c2 c3 c4 c5 c6 ct
 generalize cmdT ⟨z0, z1, o⟩ = T at *
 cases ho : (trnOk ⟨z0, z1, o⟩ && opOk o)
 ·obtain ⟨HN, hT⟩ := HX2.out ho
  have HN : Hid (∀ x, ¬ CmdRd s x) := HN
  obtain ⟨hq1, hq2, hq3⟩ := text_neqC (a := T) (b := s) (by rw [hT]; exact fun e => HNE.out e.symm)
  clear hT ho HX1 HX2
  obtain ⟨⟨r0, s0⟩, ⟨r1, s1⟩, ⟨r2, s2⟩, ⟨r3, s3⟩, ⟨r4, s4⟩, ⟨r5, s5⟩, ⟨r6, s6⟩, y0, y1, y2, y3, y4, y5, y6⟩ := resC7 (x0 := .int .i64 0) (x1 := .int .i64 0) (x2 := .int .i64 0) (x3 := .string ⟨#[]⟩) (x4 := .int .i64 0) (x5 := .int .i64 0) (x6 := .string ⟨#[]⟩) R2.out
  have BZ := Hid.mk (belowC7 B4.out (Nat.le_refl _) (.int .i64 0) (.int .i64 0) (.int .i64 0) (.string ⟨#[]⟩) (.int .i64 0) (.int .i64 0) (.string ⟨#[]⟩))
  go_wp2_with fail
  exact bodyPost_ret (v := .tuple #[.agg #[.int .i64 0, .int .i64 0, .int .i64 0, .string ⟨#[]⟩, .int .i64 0, .int .i64 0, .string ⟨#[]⟩], .bool false]) (by simp [results, go_sem, y0, y1, y2, y3, y4, y5, y6]) rfl ⟨.inr ⟨HN.out, rfl⟩, BZ.out⟩
 ·obtain ⟨hx, hT⟩ := HX1.out ho
  have HX : Hid (CmdRd s ⟨z0, z1, o⟩) := hx
  subst hT
  clear hx ho HX1 HX2
  obtain ⟨c0, c1, c2, c3, c4, c5, c6⟩ := cellsC7 A2.out
  obtain ⟨⟨r0, s0⟩, ⟨r1, s1⟩, ⟨r2, s2⟩, ⟨r3, s3⟩, ⟨r4, s4⟩, ⟨r5, s5⟩, ⟨r6, s6⟩, y0, y1, y2, y3, y4, y5, y6⟩ := resC7 (x0 := .int .i64 z0) (x1 := .int .i64 z1) (x2 := .int .i64 o.kind) (x3 := .string o.key) (x4 := .int .i64 o.frm) (x5 := .int .i64 o.til) (x6 := .string o.data) R2.out
  have BZ := Hid.mk (belowC7 B4.out (Nat.le_refl _) (.int .i64 z0) (.int .i64 z1) (.int .i64 o.kind) (.string o.key) (.int .i64 o.frm) (.int .i64 o.til) (.string o.data))
  go_wp2_with fail
  exact bodyPost_ret (v := .tuple #[.agg #[.int .i64 z0, .int .i64 z1, .int .i64 o.kind, .string o.key, .int .i64 o.frm, .int .i64 o.til, .string o.data], .bool true]) (by simp [results, go_sem, y0, y1, y2, y3, y4, y5, y6]) rfl ⟨.inl ⟨_, HX.out, rfl⟩, BZ.out⟩
end Go.Proofs.YtgbepickfhbknaaGreatDoor
namespace Go.Proofs.YtgbepickfhbknaaGreatDoor
open Go.ChangeShapes Go.WideShapes Go.ChangeAt Go.RowKit Go.PlainAid
set_option linter.unusedVariables false
set_option maxHeartbeats 400000 in
theorem eqOp (x : Opx) (w : World) : Calls Tryz.prog 12 #[vOp x, vOp x] w fun e w' => e = .returned (.bool true) ∧ Below w.heap.size w w' := by
 unfold vOp
 go_enter Tryz.func12, Tryz.ntmps12
 go_wp2
 go_ret
 exact ⟨rfl, below_c2 _ _ _⟩
set_option maxHeartbeats 1000000 in
theorem eqCmd (x : Cmx) (w : World) : Calls Tryz.prog 6 #[vCmd x, vCmd x] w fun e w' => e = .returned (.bool true) ∧ Below w.heap.size w w' := by
 have ce := fun wx => eqOp x.op wx
 unfold vOp at ce
 unfold vCmd
 have HB := below_c2 w (.cells #[.int .i64 x.client, .int .i64 x.serial, .int .i64 x.op.kind, .string x.op.key, .int .i64 x.op.frm, .int .i64 x.op.til, .string x.op.data] 25) (.cells #[.int .i64 x.client, .int .i64 x.serial, .int .i64 x.op.kind, .string x.op.key, .int .i64 x.op.frm, .int .i64 x.op.til, .string x.op.data] 25)
 have k0 := (Blk.new w #[.int .i64 x.client, .int .i64 x.serial, .int .i64 x.op.kind, .string x.op.key, .int .i64 x.op.frm, .int .i64 x.op.til, .string x.op.data] 25).alloc (.cells #[.int .i64 x.client, .int .i64 x.serial, .int .i64 x.op.kind, .string x.op.key, .int .i64 x.op.frm, .int .i64 x.op.til, .string x.op.data] 25)
 have k1 := Blk.new (w.alloc (.cells #[.int .i64 x.client, .int .i64 x.serial, .int .i64 x.op.kind, .string x.op.key, .int .i64 x.op.frm, .int .i64 x.op.til, .string x.op.data] 25)) #[.int .i64 x.client, .int .i64 x.serial, .int .i64 x.op.kind, .string x.op.key, .int .i64 x.op.frm, .int .i64 x.op.til, .string x.op.data] 25
 rw [World.size_alloc] at k1
 obtain ⟨c0, c1, c2, c3, c4, c5, c6⟩ := cellsC7 k0
 obtain ⟨d0, d1, d2, d3, d4, d5, d6⟩ := cellsC7 k1
 go_enter Tryz.func6, Tryz.ntmps6
 go_wp2_with fail
 refine (ce _).mono ?_
 rintro e w1 ⟨rfl, hb⟩
 have B1 := Hid.mk (HB.trans (hb.mono HB.size))
 clear hb HB
 go_wp2_with fail
 go_ret
 exact ⟨rfl, B1.out⟩
set_option maxHeartbeats 1000000 in
theorem law_fnExactReadCmd (s : ByteArray) (w : World) (hs : s.size ≤ maxLen) (hst : SumTab w) (a0 a1 a2 : Addr) (he : Errs w a0 a1 a2) :
  Calls Tryz.prog 3 #[.string s] w fun e w' => e = .returned (.bool true) ∧ Below w.heap.size w w' := by
 by_cases hb : s.size ≤ 1048576
 rotate_left
 ·have q1 : (1048576 : Int) < (s.size : Int) := by omega
  have q2 : (s.size : Int) ≤ 9223372036854775807 := by unfold maxLen at hs; omega
  clear hs hb hst he
  go_enter Tryz.func3, Tryz.ntmps3
  go_wp2_with fail
  go_ret
  exact ⟨rfl, Below.refl _ _⟩
 have q1 : (s.size : Int) ≤ 1048576 := by omega
 have c1 := fun wx => specReadCmd s wx hb
 have c2 := fun wx (hk : Below w.heap.size w wx) => implReadCmd s wx hb (hst.on hk) a0 a1 a2 (he.on hk)
 clear hs hb hst he
 go_enter Tryz.func3, Tryz.ntmps3
 go_wp2_with fail
 refine (c1 _).mono ?_
 rintro e w1 ⟨hA, hb1⟩
 have B1 : Hid (Below w.heap.size w w1) := hb1
 have HA : Hid (CmdA s e) := hA
 obtain ⟨x, b, rfl⟩ := hA.form
 clear hb1 hA c1
 have k1 := Hid.mk (Blk.new w1 #[.int .i64 x.client, .int .i64 x.serial, .int .i64 x.op.kind, .string x.op.key, .int .i64 x.op.frm, .int .i64 x.op.til, .string x.op.data] 25)
 have B2 : Hid (Below w.heap.size w (w1.alloc (.cells #[.int .i64 x.client, .int .i64 x.serial, .int .i64 x.op.kind, .string x.op.key, .int .i64 x.op.frm, .int .i64 x.op.til, .string x.op.data] 25))) := B1.out.alloc B1.out.size _
 clear B1
 unfold vCmd
 go_wp2_with fail
 generalize hX : w1.alloc (.cells #[.int .i64 x.client, .int .i64 x.serial, .int .i64 x.op.kind, .string x.op.key, .int .i64 x.op.frm, .int .i64 x.op.til, .string x.op.data] 25) = X at *
 clear hX
 refine (c2 _ B2.out).mono ?_
 rintro e w2 ⟨hA, hb2⟩
 obtain rfl := HA.out.one hA
 have B3 : Hid (Below w.heap.size w w2) := B2.out.trans (hb2.mono B2.out.size)
 have k2 := Hid.mk (k1.out.on hb2 k1.out.lt)
 clear hb2 hA c2 HA k1 B2
 have k3 := Hid.mk (k2.out.alloc (.cells #[.int .i64 x.client, .int .i64 x.serial, .int .i64 x.op.kind, .string x.op.key, .int .i64 x.op.frm, .int .i64 x.op.til, .string x.op.data] 25))
 have k4 := Hid.mk (Blk.new w2 #[.int .i64 x.client, .int .i64 x.serial, .int .i64 x.op.kind, .string x.op.key, .int .i64 x.op.frm, .int .i64 x.op.til, .string x.op.data] 25)
 have B4 : Hid (Below w.heap.size w (w2.alloc (.cells #[.int .i64 x.client, .int .i64 x.serial, .int .i64 x.op.kind, .string x.op.key, .int .i64 x.op.frm, .int .i64 x.op.til, .string x.op.data] 25))) := B3.out.alloc B3.out.size _
 clear k2 B3
 obtain ⟨c0, c1, c2, c3, c4, c5, c6⟩ := cellsC7 k3.out
 obtain ⟨d0, d1, d2, d3, d4, d5, d6⟩ := cellsC7 k4.out
 unfold vCmd
 go_wp2_with fail
 refine (eqCmd x _).mono ?_
 rintro e w3 ⟨rfl, hb3⟩
 have B5 : Hid (Below w.heap.size w w3) := B4.out.trans (hb3.mono B4.out.size)
 clear hb3 c0 c1 c2 c3 c4 c5 c6 d0 d1 d2 d3 d4 d5 d6
 go_wp2_with fail
 go_ret
 exact ⟨rfl, B5.out⟩
end Go.Proofs.YtgbepickfhbknaaGreatDoor
