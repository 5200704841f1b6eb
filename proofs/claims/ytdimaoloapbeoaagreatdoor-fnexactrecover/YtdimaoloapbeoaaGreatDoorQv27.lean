/- RpImpl RvRec RvImpl -/
import Derived.Test.YtdimaoloapbeoaaGreatDoorRows
import Derived.Test.YtdimaoloapbeoaaGreatDoorQv25
import Derived.Test.YtdimaoloapbeoaaGreatDoorQv26
import Derived.Test.YtdimaoloapbeoaaGreatDoorQv12
import Derived.Test.YtdimaoloapbeoaaGreatDoorQv15
import Derived.Deep.RegionHeld3
import Derived.Test.YtdimaoloapbeoaaGreatDoorQv24
import Derived.Test.YtdimaoloapbeoaaGreatDoorQv10
import Derived.Deep.Cut
import Derived.Deep.CutRange
import Derived.Deep.CutBlock
open List (setIfInBounds_toArray set_cons_zero set_cons_succ)
namespace Go.Proofs.YtdimaoloapbeoaaGreatDoor
open Go.ChangeShapes Go.WideShapes Go.ChangeAt Go.RowKit Go.PlainAid
set_option linter.unusedVariables false
theorem stp_no {x : Wl} {s : ByteArray} (h : (stp x s).2 = false) : (stp x s).1 = x := by
 unfold stp at h ⊢
 cases hr : rd s with
 | none => rfl
 | some q =>
  rw [hr] at h
  simp only at h ⊢
  split
  ·rename_i hf
   rw [if_pos hf] at h
   cases h
  ·rfl
theorem wok_in {x : Wl} (h : walOk x = true) : x.ents.length ≤ 60 ∧ 0 ≤ x.base ∧ x.base ≤ 100000 := by
 have w := wOk_of h
 have := w.s
 exact ⟨w.n, based0 w.b, by omega⟩
set_option maxRecDepth 20000 in
set_option maxHeartbeats 16000000 in
theorem implReplay (s : ByteArray) (w : World) (hs : s.size ≤ 1048576) (ht : SumTab w) (a0 a1 a2 : Addr) (he : Errs w a0 a1 a2) :
  Calls Tryz.prog 26 #[.string s] w fun e w' => ∃ K u, Ends s K ∧ e = .returned (.tuple #[u, .int .i64 ((rep (bods s K)).2.1 : Int), .bool (rep (bods s K)).2.2]) ∧ WalO w' w.heap.size u (rep (bods s K)).1 ∧ Below w.heap.size w w' := by
 have HS : Hid (s.size ≤ 1048576) := hs
 have b0 : Below w.heap.size w (w.alloc (.cells #[.int .i64 0, .int .i64 0, .int .i64 0, .int .i64 0, .slice none 0 0] 30)) := (Below.refl _ _).alloc (Nat.le_refl _) _
 have k0 := Blk.new w #[.int .i64 0, .int .i64 0, .int .i64 0, .int .i64 0, .slice none 0 0] 30
 have cF := impl_frames s (w.alloc (.cells #[.int .i64 0, .int .i64 0, .int .i64 0, .int .i64 0, .slice none 0 0] 30)) hs (ht.on b0) a0 a1 a2 (he.on b0)
 clear hs ht he
 go_enter Tryz.func26, Tryz.ntmps26
 go_wp2_with fail
 generalize w.alloc (.cells #[.int .i64 0, .int .i64 0, .int .i64 0, .int .i64 0, .slice none 0 0] 30) = W at *
 refine cF.mono ?_
 rintro e w1 ⟨K, v, hE, rfl, hS, hb1⟩
 have B1 : Hid (Below w.heap.size w w1) := b0.trans (hb1.mono b0.size)
 have R1 : Hid (Blk w1 w.heap.size #[.int .i64 0, .int .i64 0, .int .i64 0, .int .i64 0, .slice none 0 0] 30) := k0.on hb1 k0.lt
 have HE : Hid (Ends s K) := hE
 have hK := hE.1.pos_le
 obtain ⟨A, cap, rfl, hlk⟩ := strs_look hS
 have hroom := hS.room.1
 have HSZ : Hid (∀ x ∈ bods s K, x.size ≤ 1048576) := fun x hx => Nat.le_trans (bods_size s K x hx) HS.out
 rw [bods_length] at hlk hroom ⊢
 have HRM : Hid (K ≤ cap) := hroom
 have HL : Hid (∀ j, j < K → ∃ g, A = some ⟨g, 0, none⟩ ∧ g < w1.heap.size ∧ W.heap.size ≤ g ∧ w1.cell? ⟨g, j, none⟩ = some (.string ((bods s K).getD j default))) := hlk
 have HN : Hid ((bods s K).length = K) := bods_length s K
 have qK : (K : Int) ≤ 200000 := by have := HS.out; omega
 have RL : Hid (w.heap.size < w1.heap.size) := R1.out.lt
 clear hE hS hb1 hlk k0 b0 cF hK hroom
 generalize hbs : bods s K = bs at *
 have HBS : Hid (bods s K = bs) := hbs
 clear hbs
 by_cases h0 : K = 0
 ·subst h0
  obtain rfl : bs = [] := List.eq_nil_of_length_eq_zero HN.out
  have r0 := R1.out.cell 0 (.int .i64 0) rfl
  have f0 := R1.out.free 0
  have r1 := R1.out.cell 1 (.int .i64 0) rfl
  have f1 := R1.out.free 1
  have r2 := R1.out.cell 2 (.int .i64 0) rfl
  have f2 := R1.out.free 2
  have r3 := R1.out.cell 3 (.int .i64 0) rfl
  have f3 := R1.out.free 3
  have r4 := R1.out.cell 4 (.slice none 0 0) rfl
  have f4 := R1.out.free 4
  go_wp2_with fail
  have hF := (((((R1.out.set 0 (.int .i64 0)).set 1 (.int .i64 0)).set 2 (.int .i64 0)).set 3 (.int .i64 0)).set 4 (.slice none 0 0))
  have FB := (((((B1.out.setCell (Nat.le_refl _) (.int .i64 0) (p := ⟨w.heap.size, 0, none⟩)).setCell (Nat.le_refl _) (.int .i64 0) (p := ⟨w.heap.size, 1, none⟩)).setCell (Nat.le_refl _) (.int .i64 0) (p := ⟨w.heap.size, 2, none⟩)).setCell (Nat.le_refl _) (.int .i64 0) (p := ⟨w.heap.size, 3, none⟩)).setCell (Nat.le_refl _) (.slice none 0 0) (p := ⟨w.heap.size, 4, none⟩))
  generalize (((((w1.setCell ⟨w.heap.size, 0, none⟩ (.int .i64 0)).setCell ⟨w.heap.size, 1, none⟩ (.int .i64 0)).setCell ⟨w.heap.size, 2, none⟩ (.int .i64 0)).setCell ⟨w.heap.size, 3, none⟩ (.int .i64 0)).setCell ⟨w.heap.size, 4, none⟩ (.slice none 0 0)) = WF at *
  have hG : Blk WF w.heap.size #[.int .i64 0, .int .i64 0, .int .i64 0, .int .i64 0, .slice none 0 0] 30 := hF
  have mm0 := hG.cell 0 (.int .i64 0) rfl
  have mm1 := hG.cell 1 (.int .i64 0) rfl
  have mm2 := hG.cell 2 (.int .i64 0) rfl
  have mm3 := hG.cell 3 (.int .i64 0) rfl
  have mm4 := hG.cell 4 (.slice none 0 0) rfl
  first
   | exact bodyPost_ret (v := .tuple #[.agg #[.int .i64 0, .int .i64 0, .int .i64 0, .int .i64 0, .slice none 0 0], .int .i64 0, .bool false]) (by simp [results, go_sem, mm0, mm1, mm2, mm3, mm4]) rfl ⟨0, _, HE.out, rfl, ⟨_, rfl, Owns.nil _ _ _ _⟩, FB⟩
   | exact bodyPost_ret (v := .tuple #[.agg #[.int .i64 0, .int .i64 0, .int .i64 0, .int .i64 0, .slice none 0 0], .int .i64 0, .bool false]) (by simp [results, go_sem, mm0, mm1, mm2, mm3, mm4]) rfl ⟨0, HE.out, _, rfl, ⟨_, rfl, Owns.nil _ _ _ _⟩, FB⟩
 have q0 : ((K : Int) == 0) = false := by simpa using h0
 obtain ⟨b, bt, rfl⟩ : ∃ b bt, bs = b :: bt := by
  cases bs with
  | nil => exact absurd HN.out.symm h0
  | cons b bt => exact ⟨b, bt, rfl⟩
 obtain ⟨g, rfl, hg, hWg, hc0⟩ := HL.out 0 (by omega)
 have hb0 : b.size ≤ 1048576 := HSZ.out b (List.mem_cons_self ..)
 have G1 : Hid (g < w1.heap.size) := hg
 obtain ⟨q, hqd, hrd, cQ⟩ := readRecA b hb0
 have cB := fun wx => begunV q wx
 have hbeg := beg_rec hrd
 replace hc0 : w1.cell? ⟨g, 0, none⟩ = some (.string b) := hc0
 obtain ⟨A', c', hcut, hA'⟩ := cut_strs g K cap (by omega) HRM.out
 have HA' : Hid (1 < K → A' = some ⟨g, 1, none⟩) := hA'
 clear hg hWg hrd hA'
 by_cases hk : recOk q = true ∧ q.kind = 4
 ·rw [if_pos hk] at cB hbeg
  have HOW : Hid (OnWay (b :: bt) 1 (begW q) (8 + b.size)) := OnWay.begin hbeg hb0
  clear hk
  generalize recV q = rv at *
  go_wp2_with fail
  refine (cQ w1).mono ?_
  rintro e w2 ⟨rfl, hb2⟩
  go_wp2_with fail
  refine (cB w2).mono ?_
  rintro e w3 ⟨rfl, hb3⟩
  have C3 : Below w1.heap.size w1 w3 := hb2.trans (hb3.mono hb2.size)
  have KX := Blk.new w3 #[.int .i64 q.term, .int .i64 (-1), .int .i64 q.index, .int .i64 q.term, .slice none 0 0] 30
  have CX := C3.alloc C3.size (.cells #[.int .i64 q.term, .int .i64 (-1), .int .i64 q.index, .int .i64 q.term, .slice none 0 0] 30)
  have hcx : (w3.alloc (.cells #[.int .i64 q.term, .int .i64 (-1), .int .i64 q.index, .int .i64 q.term, .slice none 0 0] 30)).cell? ⟨g, 0, none⟩ = some (.string b) := by rw [CX.cell (p := ⟨_, _, none⟩) G1.out]; exact hc0
  go_wp2_with fail
  generalize w3.alloc (.cells #[.int .i64 q.term, .int .i64 (-1), .int .i64 q.index, .int .i64 q.term, .slice none 0 0] 30) = w4 at *
  have LX : Hid (w1.heap.size ≤ w3.heap.size) := C3.size
  have L4 : Hid (w1.heap.size ≤ w4.heap.size) := CX.size
  have LX4 : Hid (w3.heap.size < w4.heap.size) := KX.lt
  clear hb2 hb3 C3 hcx hc0 cQ cB
  generalize w3.heap.size = zx at *
  have st : Below w1.heap.size w1 w4 ∧ Blk w4 zx #[.int .i64 q.term, .int .i64 (-1), .int .i64 q.index, .int .i64 q.term, .slice none 0 0] 30 := ⟨CX, KX⟩
  clear CX KX
  go_loopw [8, 9, 40] (fun v8 v9 v40 wr => ∃ (k nn : Nat) (x : Wl) (A1 : Option Addr) (m1 c1 : Nat), k ≤ K - 1 ∧ v8 = .bool true ∧ v9 = .int .i64 (nn : Int) ∧ v40 = .int .i64 (k : Int) ∧ OnWay (b :: bt) (k + 1) x nn ∧ Below w1.heap.size w1 wr ∧ w4.heap.size ≤ wr.heap.size ∧ Blk wr zx #[.int .i64 x.term, .int .i64 x.vote, .int .i64 x.base, .int .i64 x.bterm, .slice A1 m1 c1] 30 ∧ Owns wr w4.heap.size 59 2 (.slice A1 m1 c1) (entR x.ents)) (fun _ _ i _ => K - (intOf i).toNat)
  case atStart => exact ⟨0, 8 + b.size, begW q, none, 0, 0, by omega, rfl, by go_num, rfl, HOW.out, st.1, Nat.le_refl _, st.2, Owns.nil _ _ _ _⟩
  case round =>
   obtain ⟨k, nn, x, A1, m1, c1, hin, rfl, rfl, rfl, hOW, hC, hZ, hX, hO⟩ := hrel
   have OW : Hid (OnWay (b :: bt) (k + 1) x nn) := hOW
   have CR : Hid (Below w1.heap.size w1 wr) := hC
   have ZR : Hid (w4.heap.size ≤ wr.heap.size) := hZ
   have XR : Hid (Blk wr zx #[.int .i64 x.term, .int .i64 x.vote, .int .i64 x.base, .int .i64 x.bterm, .slice A1 m1 c1] 30) := hX
   have OR : Hid (Owns wr w4.heap.size 59 2 (.slice A1 m1 c1) (entR x.ents)) := hO
   have hnl := hOW.le
   have qnn : (nn : Int) ≤ 209716800000 := by omega
   clear hOW hC hZ hX hO hnl st HOW
   by_cases hlt : k < K - 1
   ·have q4 : (k : Int) < ((K - 1 : Nat) : Int) := by omega
    have hAe := HA'.out (by omega)
    subst hAe
    obtain ⟨g', eg, hg', _, hc⟩ := HL.out (k + 1) (by omega)
    cases eg
    rw [← CR.out.cell (p := ⟨_, _, none⟩) G1.out, Nat.add_comm k 1] at hc
    have hsz : ((b :: bt).getD (k + 1) default).size ≤ 1048576 := HSZ.out _ (getD_mem (b :: bt) (k + 1) (by rw [HN.out]; omega))
    obtain ⟨p, hpd, hrp, cP⟩ := readRecA ((b :: bt).getD (k + 1) default) hsz
    have cS := fun wx hx hb => steppedV x p (.agg #[.int .i64 x.term, .int .i64 x.vote, .int .i64 x.base, .int .i64 x.bterm, .slice A1 m1 c1]) wx w4.heap.size hx (wok_in OW.out.ok).1 (wok_in OW.out.ok).2.1 (wok_in OW.out.ok).2.2 hb hpd
    rw [stepR_stp hrp x] at cS
    have HNX : Hid (∀ hf : (stp x ((b :: bt).getD (k + 1) default)).2 = true, OnWay (b :: bt) (k + 1 + 1) (stp x ((b :: bt).getD (k + 1) default)).1 (nn + (8 + ((b :: bt).getD (k + 1) default).size))) := fun hf => OW.out.next (by rw [HN.out]; omega) hsz hf
    have HST : Hid (∀ hf : (stp x ((b :: bt).getD (k + 1) default)).2 = false, rep (b :: bt) = ((stp x ((b :: bt).getD (k + 1) default)).1, nn, true)) := fun hf => by rw [stp_no hf]; exact OW.out.stop (by rw [HN.out]; omega) hf
    rw [Nat.add_comm k 1] at hsz cP cS HNX HST
    generalize (b :: bt).getD (1 + k) default = si at *
    generalize stp x si = sp at *
    obtain ⟨y, fit⟩ := sp
    simp only at cS HNX HST
    generalize recV p = rv at *
    clear hg' OW hrp hpd
    have S0 : Hid (wr.drew.cell? ⟨zx, 0, none⟩ = some (.int .i64 x.term) ∧ wr.drew.cell? ⟨zx, 1, none⟩ = some (.int .i64 x.vote) ∧ wr.drew.cell? ⟨zx, 2, none⟩ = some (.int .i64 x.base) ∧ wr.drew.cell? ⟨zx, 3, none⟩ = some (.int .i64 x.bterm) ∧ wr.drew.cell? ⟨zx, 4, none⟩ = some (.slice A1 m1 c1)) := ⟨XR.out.cell 0 _ rfl, XR.out.cell 1 _ rfl, XR.out.cell 2 _ rfl, XR.out.cell 3 _ rfl, XR.out.cell 4 _ rfl⟩
    go_wp2_with fail
    refine wp_region_until (fun w' => w'.cell? ⟨zx, 0, none⟩ = some (.int .i64 x.term) ∧ w'.cell? ⟨zx, 1, none⟩ = some (.int .i64 x.vote) ∧ w'.cell? ⟨zx, 2, none⟩ = some (.int .i64 x.base) ∧ w'.cell? ⟨zx, 3, none⟩ = some (.int .i64 x.bterm) ∧ w'.cell? ⟨zx, 4, none⟩ = some (.slice A1 m1 c1)) (fun i => i == 7 || i == 8) 9 (by rfl) (by kernel_rfl) ?_
    have CRX : Hid (Below w1.heap.size w1 wr.drew) := CR.out.drew
    have ZRX : Hid (w4.heap.size ≤ wr.drew.heap.size) := ZR.out
    have XRX : Hid (Blk wr.drew zx #[.int .i64 x.term, .int .i64 x.vote, .int .i64 x.base, .int .i64 x.bterm, .slice A1 m1 c1] 30) := XR.out
    have ORX : Hid (Owns wr.drew w4.heap.size 59 2 (.slice A1 m1 c1) (entR x.ents)) := OR.out.heap rfl
    clear hc
    generalize wr.drew = rgX at *
    refine until_take 0 (v := ?_) (by rfl) (by kernel_rfl) (by exact fun _ _ _ h => h) (by rfl) ?_ S0.out ?_
    rotate_left
    ·intro w hSw
     try dsimp only at hSw
     go_simp
     try with_reducible rfl
    try simp only [Act.put, setIfInBounds_toArray, set_cons_zero, set_cons_succ]
    refine until_pure 1 (v := ?_) (by rfl) (by kernel_rfl) (by exact fun _ _ _ h => h) (by rfl) ?_ ?_
    rotate_left
    ·intro w
     go_simp
     try with_reducible rfl
    try simp only [Act.put, setIfInBounds_toArray, set_cons_zero, set_cons_succ]
    refine until_one 2 (by rfl) (by kernel_rfl) (fun KC hK => ?_)
    go_simp
    refine (cP rgX).mono ?_
    rintro e w5 ⟨rfl, hb5⟩
    have C5 : Hid (Below w1.heap.size w1 w5) := CRX.out.trans (hb5.mono CRX.out.size)
    have Z5 : Hid (w4.heap.size ≤ w5.heap.size) := Nat.le_trans ZRX.out hb5.size
    have X5 : Hid (Blk w5 zx #[.int .i64 x.term, .int .i64 x.vote, .int .i64 x.base, .int .i64 x.bterm, .slice A1 m1 c1] 30) := XRX.out.on hb5 XRX.out.lt
    have O5 : Hid (Owns w5 w4.heap.size 59 2 (.slice A1 m1 c1) (entR x.ents)) := ORX.out.on hb5
    clear hb5 cP
    go_wp2_with fail
    refine hK.out _ _ (fun _ _ => ⟨X5.out.cell 0 _ rfl, X5.out.cell 1 _ rfl, X5.out.cell 2 _ rfl, X5.out.cell 3 _ rfl, X5.out.cell 4 _ rfl⟩) ?_
    clear hK KC
    try simp only [Act.put, setIfInBounds_toArray, set_cons_zero, set_cons_succ]
    refine until_one 3 (by rfl) (by kernel_rfl) (fun KC hK => ?_)
    go_simp
    refine (cS w5 ⟨_, rfl, O5.out⟩ Z5.out).mono ?_
    rintro e w6 ⟨u4, b4, rfl, ⟨hO4, hbe⟩, hb6⟩
    replace hbe := hbe.symm
    subst hbe
    obtain ⟨s4, rfl, o4⟩ := hO4
    obtain ⟨A2, m2, c2, rfl⟩ := o4.shape
    have C6 : Hid (Below w1.heap.size w1 w6) := C5.out.trans (hb6.mono L4.out)
    have Z6 : Hid (w4.heap.size ≤ w6.heap.size) := Nat.le_trans Z5.out hb6.size
    have X6 : Hid (Blk w6 zx #[.int .i64 x.term, .int .i64 x.vote, .int .i64 x.base, .int .i64 x.bterm, .slice A1 m1 c1] 30) := X5.out.on hb6 LX4.out
    have O6 : Hid (Owns w6 w4.heap.size 59 2 (.slice A2 m2 c2) (entR y.ents)) := o4
    clear hb6 cS o4
    go_wp2_with fail
    refine hK.out _ _ (fun _ _ => ⟨X6.out.cell 0 _ rfl, X6.out.cell 1 _ rfl, X6.out.cell 2 _ rfl, X6.out.cell 3 _ rfl, X6.out.cell 4 _ rfl⟩) ?_
    clear hK KC
    try simp only [Act.put, setIfInBounds_toArray, set_cons_zero, set_cons_succ]
    refine until_pure 4 (v := ?_) (by rfl) (by kernel_rfl) (by exact fun _ _ _ h => h) (by rfl) ?_ ?_
    rotate_left
    ·intro w
     go_simp
     try with_reducible rfl
    try simp only [Act.put, setIfInBounds_toArray, set_cons_zero, set_cons_succ]
    refine until_pure 5 (v := ?_) (by rfl) (by kernel_rfl) (by exact fun _ _ _ h => h) (by rfl) ?_ ?_
    rotate_left
    ·intro w
     go_simp
     try with_reducible rfl
    try simp only [Act.put, setIfInBounds_toArray, set_cons_zero, set_cons_succ]
    refine until_pure 6 (v := ?_) (by rfl) (by kernel_rfl) (by exact fun _ _ _ h => h) (by rfl) ?_ ?_
    rotate_left
    ·intro w
     go_simp
     try with_reducible rfl
    try simp only [Act.put, setIfInBounds_toArray, set_cons_zero, set_cons_succ]
    refine until_one 7 (by rfl) (by kernel_rfl) (fun KC hK => ?_)
    have x0 := X6.out.cell 0 (.int .i64 x.term) rfl
    have f0 := X6.out.free 0
    have x1 := X6.out.cell 1 (.int .i64 x.vote) rfl
    have f1 := X6.out.free 1
    have x2 := X6.out.cell 2 (.int .i64 x.base) rfl
    have f2 := X6.out.free 2
    have x3 := X6.out.cell 3 (.int .i64 x.bterm) rfl
    have f3 := X6.out.free 3
    have x4 := X6.out.cell 4 (.slice A1 m1 c1) rfl
    have f4 := X6.out.free 4
    go_simp
    have X7 := (((((X6.out.set 0 (.int .i64 y.term)).set 1 (.int .i64 y.vote)).set 2 (.int .i64 y.base)).set 3 (.int .i64 y.bterm)).set 4 (.slice A2 m2 c2))
    have O7 := (((((O6.out.other (O6.out.notBlk X6.out (by decide)) 0 (.int .i64 y.term)).other (O6.out.notBlk X6.out (by decide)) 1 (.int .i64 y.vote)).other (O6.out.notBlk X6.out (by decide)) 2 (.int .i64 y.base)).other (O6.out.notBlk X6.out (by decide)) 3 (.int .i64 y.bterm)).other (O6.out.notBlk X6.out (by decide)) 4 (.slice A2 m2 c2))
    have C7 := (((((C6.out.setCell LX.out (.int .i64 y.term) (p := ⟨zx, 0, none⟩)).setCell LX.out (.int .i64 y.vote) (p := ⟨zx, 1, none⟩)).setCell LX.out (.int .i64 y.base) (p := ⟨zx, 2, none⟩)).setCell LX.out (.int .i64 y.bterm) (p := ⟨zx, 3, none⟩)).setCell LX.out (.slice A2 m2 c2) (p := ⟨zx, 4, none⟩))
    have Z7 : w4.heap.size ≤ ((((((w6.setCell ⟨zx, 0, none⟩ (.int .i64 y.term)).setCell ⟨zx, 1, none⟩ (.int .i64 y.vote)).setCell ⟨zx, 2, none⟩ (.int .i64 y.base)).setCell ⟨zx, 3, none⟩ (.int .i64 y.bterm)).setCell ⟨zx, 4, none⟩ (.slice A2 m2 c2))).heap.size := by simpa using Z6.out
    clear x0 x1 x2 x3 x4 f0 f1 f2 f3 f4 X6 O6 C6 Z6
    generalize (((((w6.setCell ⟨zx, 0, none⟩ (.int .i64 y.term)).setCell ⟨zx, 1, none⟩ (.int .i64 y.vote)).setCell ⟨zx, 2, none⟩ (.int .i64 y.base)).setCell ⟨zx, 3, none⟩ (.int .i64 y.bterm)).setCell ⟨zx, 4, none⟩ (.slice A2 m2 c2)) = w7 at *
    replace X7 : Blk w7 zx #[.int .i64 y.term, .int .i64 y.vote, .int .i64 y.base, .int .i64 y.bterm, .slice A2 m2 c2] 30 := X7
    refine hK.out _ _ (fun h => by cases h) ?_
    clear hK KC S0
    try simp only [Act.put, setIfInBounds_toArray, set_cons_zero, set_cons_succ]
    refine until_pure 8 (v := ?_) (by rfl) (by kernel_rfl) (by exact fun _ _ _ h => h) (by rfl) ?_ ?_
    rotate_left
    ·intro w
     go_simp
     try with_reducible rfl
    try simp only [Act.put, setIfInBounds_toArray, set_cons_zero, set_cons_succ]
    refine until_done (by kernel_rfl) ?_ _
    cases fit with
    | false =>
     have hrep := HST.out rfl
     have BR := B1.out.trans (C7.mono B1.out.size)
     have RR := R1.out.on C7 RL.out
     have x0 := X7.cell 0 (.int .i64 y.term) rfl
     have x1 := X7.cell 1 (.int .i64 y.vote) rfl
     have x2 := X7.cell 2 (.int .i64 y.base) rfl
     have x3 := X7.cell 3 (.int .i64 y.bterm) rfl
     have x4 := X7.cell 4 (.slice A2 m2 c2) rfl
     have r0 := RR.cell 0 (.int .i64 0) rfl
     have f0 := RR.free 0
     have r1 := RR.cell 1 (.int .i64 0) rfl
     have f1 := RR.free 1
     have r2 := RR.cell 2 (.int .i64 0) rfl
     have f2 := RR.free 2
     have r3 := RR.cell 3 (.int .i64 0) rfl
     have f3 := RR.free 3
     have r4 := RR.cell 4 (.slice none 0 0) rfl
     have f4 := RR.free 4
     go_wp2_with fail
     have hF := (((((RR.set 0 (.int .i64 y.term)).set 1 (.int .i64 y.vote)).set 2 (.int .i64 y.base)).set 3 (.int .i64 y.bterm)).set 4 (.slice A2 m2 c2))
     have FB := (((((BR.setCell (Nat.le_refl _) (.int .i64 y.term) (p := ⟨w.heap.size, 0, none⟩)).setCell (Nat.le_refl _) (.int .i64 y.vote) (p := ⟨w.heap.size, 1, none⟩)).setCell (Nat.le_refl _) (.int .i64 y.base) (p := ⟨w.heap.size, 2, none⟩)).setCell (Nat.le_refl _) (.int .i64 y.bterm) (p := ⟨w.heap.size, 3, none⟩)).setCell (Nat.le_refl _) (.slice A2 m2 c2) (p := ⟨w.heap.size, 4, none⟩))
     have FO := (((((O7.other (O7.notBlk RR (by decide)) 0 (.int .i64 y.term)).other (O7.notBlk RR (by decide)) 1 (.int .i64 y.vote)).other (O7.notBlk RR (by decide)) 2 (.int .i64 y.base)).other (O7.notBlk RR (by decide)) 3 (.int .i64 y.bterm)).other (O7.notBlk RR (by decide)) 4 (.slice A2 m2 c2))
     generalize (((((w7.setCell ⟨w.heap.size, 0, none⟩ (.int .i64 y.term)).setCell ⟨w.heap.size, 1, none⟩ (.int .i64 y.vote)).setCell ⟨w.heap.size, 2, none⟩ (.int .i64 y.base)).setCell ⟨w.heap.size, 3, none⟩ (.int .i64 y.bterm)).setCell ⟨w.heap.size, 4, none⟩ (.slice A2 m2 c2)) = WF at *
     have hG : Blk WF w.heap.size #[.int .i64 y.term, .int .i64 y.vote, .int .i64 y.base, .int .i64 y.bterm, .slice A2 m2 c2] 30 := hF
     have mm0 := hG.cell 0 (.int .i64 y.term) rfl
     have mm1 := hG.cell 1 (.int .i64 y.vote) rfl
     have mm2 := hG.cell 2 (.int .i64 y.base) rfl
     have mm3 := hG.cell 3 (.int .i64 y.bterm) rfl
     have mm4 := hG.cell 4 (.slice A2 m2 c2) rfl
     first
      | exact bodyPost_ret (v := .tuple #[.agg #[.int .i64 y.term, .int .i64 y.vote, .int .i64 y.base, .int .i64 y.bterm, .slice A2 m2 c2], .int .i64 (nn : Int), .bool true]) (by simp [results, go_sem, mm0, mm1, mm2, mm3, mm4]) rfl ⟨K, .agg #[.int .i64 y.term, .int .i64 y.vote, .int .i64 y.base, .int .i64 y.bterm, .slice A2 m2 c2], HE.out, by rw [HBS.out, hrep], by rw [HBS.out, hrep]; exact ⟨_, rfl, FO.mono (Nat.le_trans (Nat.le_of_lt RL.out) L4.out)⟩, FB⟩
      | exact bodyPost_ret (v := .tuple #[.agg #[.int .i64 y.term, .int .i64 y.vote, .int .i64 y.base, .int .i64 y.bterm, .slice A2 m2 c2], .int .i64 (nn : Int), .bool true]) (by simp [results, go_sem, mm0, mm1, mm2, mm3, mm4]) rfl ⟨K, HE.out, .agg #[.int .i64 y.term, .int .i64 y.vote, .int .i64 y.base, .int .i64 y.bterm, .slice A2 m2 c2], by rw [HBS.out, hrep], by rw [HBS.out, hrep]; exact ⟨_, rfl, FO.mono (Nat.le_trans (Nat.le_of_lt RL.out) L4.out)⟩, FB⟩
    | true =>
     have HW := HNX.out rfl
     rw [Nat.add_comm 1 k] at HW
     go_wp2_with fail
     go_roundw
     case rel => exact ⟨k + 1, nn + (8 + si.size), y, A2, m2, c2, by omega, rfl, by go_num, by go_num, HW, C7, Z7, X7, O7⟩
     case measure => simp [intOf]; omega
   ·have hrep := OW.out.done (by rw [HN.out]; omega)
    have BR := B1.out.trans (CR.out.mono B1.out.size)
    have RR := R1.out.on CR.out RL.out
    have x0 := XR.out.cell 0 (.int .i64 x.term) rfl
    have x1 := XR.out.cell 1 (.int .i64 x.vote) rfl
    have x2 := XR.out.cell 2 (.int .i64 x.base) rfl
    have x3 := XR.out.cell 3 (.int .i64 x.bterm) rfl
    have x4 := XR.out.cell 4 (.slice A1 m1 c1) rfl
    have r0 := RR.cell 0 (.int .i64 0) rfl
    have f0 := RR.free 0
    have r1 := RR.cell 1 (.int .i64 0) rfl
    have f1 := RR.free 1
    have r2 := RR.cell 2 (.int .i64 0) rfl
    have f2 := RR.free 2
    have r3 := RR.cell 3 (.int .i64 0) rfl
    have f3 := RR.free 3
    have r4 := RR.cell 4 (.slice none 0 0) rfl
    have f4 := RR.free 4
    go_wp2_with fail
    have hF := (((((RR.set 0 (.int .i64 x.term)).set 1 (.int .i64 x.vote)).set 2 (.int .i64 x.base)).set 3 (.int .i64 x.bterm)).set 4 (.slice A1 m1 c1))
    have FB := (((((BR.setCell (Nat.le_refl _) (.int .i64 x.term) (p := ⟨w.heap.size, 0, none⟩)).setCell (Nat.le_refl _) (.int .i64 x.vote) (p := ⟨w.heap.size, 1, none⟩)).setCell (Nat.le_refl _) (.int .i64 x.base) (p := ⟨w.heap.size, 2, none⟩)).setCell (Nat.le_refl _) (.int .i64 x.bterm) (p := ⟨w.heap.size, 3, none⟩)).setCell (Nat.le_refl _) (.slice A1 m1 c1) (p := ⟨w.heap.size, 4, none⟩))
    have FO := (((((OR.out.other (OR.out.notBlk RR (by decide)) 0 (.int .i64 x.term)).other (OR.out.notBlk RR (by decide)) 1 (.int .i64 x.vote)).other (OR.out.notBlk RR (by decide)) 2 (.int .i64 x.base)).other (OR.out.notBlk RR (by decide)) 3 (.int .i64 x.bterm)).other (OR.out.notBlk RR (by decide)) 4 (.slice A1 m1 c1))
    generalize (((((wr.setCell ⟨w.heap.size, 0, none⟩ (.int .i64 x.term)).setCell ⟨w.heap.size, 1, none⟩ (.int .i64 x.vote)).setCell ⟨w.heap.size, 2, none⟩ (.int .i64 x.base)).setCell ⟨w.heap.size, 3, none⟩ (.int .i64 x.bterm)).setCell ⟨w.heap.size, 4, none⟩ (.slice A1 m1 c1)) = WF at *
    have hG : Blk WF w.heap.size #[.int .i64 x.term, .int .i64 x.vote, .int .i64 x.base, .int .i64 x.bterm, .slice A1 m1 c1] 30 := hF
    have mm0 := hG.cell 0 (.int .i64 x.term) rfl
    have mm1 := hG.cell 1 (.int .i64 x.vote) rfl
    have mm2 := hG.cell 2 (.int .i64 x.base) rfl
    have mm3 := hG.cell 3 (.int .i64 x.bterm) rfl
    have mm4 := hG.cell 4 (.slice A1 m1 c1) rfl
    first
     | exact bodyPost_ret (v := .tuple #[.agg #[.int .i64 x.term, .int .i64 x.vote, .int .i64 x.base, .int .i64 x.bterm, .slice A1 m1 c1], .int .i64 (nn : Int), .bool true]) (by simp [results, go_sem, mm0, mm1, mm2, mm3, mm4]) rfl ⟨K, .agg #[.int .i64 x.term, .int .i64 x.vote, .int .i64 x.base, .int .i64 x.bterm, .slice A1 m1 c1], HE.out, by rw [HBS.out, hrep], by rw [HBS.out, hrep]; exact ⟨_, rfl, FO.mono (Nat.le_trans (Nat.le_of_lt RL.out) L4.out)⟩, FB⟩
     | exact bodyPost_ret (v := .tuple #[.agg #[.int .i64 x.term, .int .i64 x.vote, .int .i64 x.base, .int .i64 x.bterm, .slice A1 m1 c1], .int .i64 (nn : Int), .bool true]) (by simp [results, go_sem, mm0, mm1, mm2, mm3, mm4]) rfl ⟨K, HE.out, .agg #[.int .i64 x.term, .int .i64 x.vote, .int .i64 x.base, .int .i64 x.bterm, .slice A1 m1 c1], by rw [HBS.out, hrep], by rw [HBS.out, hrep]; exact ⟨_, rfl, FO.mono (Nat.le_trans (Nat.le_of_lt RL.out) L4.out)⟩, FB⟩
 ·rw [if_neg hk] at cB hbeg
  clear hk
  generalize recV q = rv at *
  go_wp2_with fail
  refine (cQ w1).mono ?_
  rintro e w2 ⟨rfl, hb2⟩
  go_wp2_with fail
  refine (cB w2).mono ?_
  rintro e w3 ⟨rfl, hb3⟩
  have C3 : Below w1.heap.size w1 w3 := hb2.trans (hb3.mono hb2.size)
  have B3 : Hid (Below w.heap.size w w3) := B1.out.trans (C3.mono B1.out.size)
  have R3 : Hid (Blk w3 w.heap.size #[.int .i64 0, .int .i64 0, .int .i64 0, .int .i64 0, .slice none 0 0] 30) := R1.out.on C3 RL.out
  clear hb2 hb3 C3 cQ cB
  have r0 := (R3.out.alloc (.cells #[.int .i64 0, .int .i64 0, .int .i64 0, .int .i64 0, .slice none 0 0] 30)).cell 0 (.int .i64 0) rfl
  have f0 := (R3.out.alloc (.cells #[.int .i64 0, .int .i64 0, .int .i64 0, .int .i64 0, .slice none 0 0] 30)).free 0
  have r1 := (R3.out.alloc (.cells #[.int .i64 0, .int .i64 0, .int .i64 0, .int .i64 0, .slice none 0 0] 30)).cell 1 (.int .i64 0) rfl
  have f1 := (R3.out.alloc (.cells #[.int .i64 0, .int .i64 0, .int .i64 0, .int .i64 0, .slice none 0 0] 30)).free 1
  have r2 := (R3.out.alloc (.cells #[.int .i64 0, .int .i64 0, .int .i64 0, .int .i64 0, .slice none 0 0] 30)).cell 2 (.int .i64 0) rfl
  have f2 := (R3.out.alloc (.cells #[.int .i64 0, .int .i64 0, .int .i64 0, .int .i64 0, .slice none 0 0] 30)).free 2
  have r3 := (R3.out.alloc (.cells #[.int .i64 0, .int .i64 0, .int .i64 0, .int .i64 0, .slice none 0 0] 30)).cell 3 (.int .i64 0) rfl
  have f3 := (R3.out.alloc (.cells #[.int .i64 0, .int .i64 0, .int .i64 0, .int .i64 0, .slice none 0 0] 30)).free 3
  have r4 := (R3.out.alloc (.cells #[.int .i64 0, .int .i64 0, .int .i64 0, .int .i64 0, .slice none 0 0] 30)).cell 4 (.slice none 0 0) rfl
  have f4 := (R3.out.alloc (.cells #[.int .i64 0, .int .i64 0, .int .i64 0, .int .i64 0, .slice none 0 0] 30)).free 4
  go_wp2_with fail
  have hF := ((((((R3.out.alloc (.cells #[.int .i64 0, .int .i64 0, .int .i64 0, .int .i64 0, .slice none 0 0] 30)).set 0 (.int .i64 0)).set 1 (.int .i64 0)).set 2 (.int .i64 0)).set 3 (.int .i64 0)).set 4 (.slice none 0 0))
  have FB := ((((((B3.out.alloc B3.out.size (.cells #[.int .i64 0, .int .i64 0, .int .i64 0, .int .i64 0, .slice none 0 0] 30)).setCell (Nat.le_refl _) (.int .i64 0) (p := ⟨w.heap.size, 0, none⟩)).setCell (Nat.le_refl _) (.int .i64 0) (p := ⟨w.heap.size, 1, none⟩)).setCell (Nat.le_refl _) (.int .i64 0) (p := ⟨w.heap.size, 2, none⟩)).setCell (Nat.le_refl _) (.int .i64 0) (p := ⟨w.heap.size, 3, none⟩)).setCell (Nat.le_refl _) (.slice none 0 0) (p := ⟨w.heap.size, 4, none⟩))
  generalize ((((((w3.alloc (.cells #[.int .i64 0, .int .i64 0, .int .i64 0, .int .i64 0, .slice none 0 0] 30)).setCell ⟨w.heap.size, 0, none⟩ (.int .i64 0)).setCell ⟨w.heap.size, 1, none⟩ (.int .i64 0)).setCell ⟨w.heap.size, 2, none⟩ (.int .i64 0)).setCell ⟨w.heap.size, 3, none⟩ (.int .i64 0)).setCell ⟨w.heap.size, 4, none⟩ (.slice none 0 0)) = WF at *
  have hG : Blk WF w.heap.size #[.int .i64 0, .int .i64 0, .int .i64 0, .int .i64 0, .slice none 0 0] 30 := hF
  have mm0 := hG.cell 0 (.int .i64 0) rfl
  have mm1 := hG.cell 1 (.int .i64 0) rfl
  have mm2 := hG.cell 2 (.int .i64 0) rfl
  have mm3 := hG.cell 3 (.int .i64 0) rfl
  have mm4 := hG.cell 4 (.slice none 0 0) rfl
  first
   | exact bodyPost_ret (v := .tuple #[.agg #[.int .i64 0, .int .i64 0, .int .i64 0, .int .i64 0, .slice none 0 0], .int .i64 0, .bool false]) (by simp [results, go_sem, mm0, mm1, mm2, mm3, mm4]) rfl ⟨K, .agg #[.int .i64 0, .int .i64 0, .int .i64 0, .int .i64 0, .slice none 0 0], HE.out, by rw [HBS.out, rep_none hbeg]; rfl, by rw [HBS.out, rep_none hbeg]; exact ⟨_, rfl, Owns.nil _ _ _ _⟩, FB⟩
   | exact bodyPost_ret (v := .tuple #[.agg #[.int .i64 0, .int .i64 0, .int .i64 0, .int .i64 0, .slice none 0 0], .int .i64 0, .bool false]) (by simp [results, go_sem, mm0, mm1, mm2, mm3, mm4]) rfl ⟨K, HE.out, .agg #[.int .i64 0, .int .i64 0, .int .i64 0, .int .i64 0, .slice none 0 0], by rw [HBS.out, rep_none hbeg]; rfl, by rw [HBS.out, rep_none hbeg]; exact ⟨_, rfl, Owns.nil _ _ _ _⟩, FB⟩
end Go.Proofs.YtdimaoloapbeoaaGreatDoor
namespace Go.Proofs.YtdimaoloapbeoaaGreatDoor
open Go.ChangeShapes Go.WideShapes Go.ChangeAt Go.RowKit Go.PlainAid
set_option linter.unusedVariables false
theorem recR_bad {d : Dsk} (h : diskOk d = false) : recR d = (kp0, 2) := by unfold recR; rw [if_pos h]
theorem recR_none {d : Dsk} (h : diskOk d = true) (h2 : (loadR d logN).2 = false) : recR d = (kp0, 1) := by unfold recR; rw [if_neg (by rw [h]; simp), if_pos h2]
theorem recR_no {d : Dsk} (h : diskOk d = true) (h2 : (loadR d logN).2 = true) (h3 : ((repS (loadR d logN).1).2.2 && (snR d).2 && reach (snR d).1 (repS (loadR d logN).1).1) = false) : recR d = (kp0, 2) := by unfold recR; rw [if_neg (by rw [h]; simp), if_neg (by rw [h2]; simp), if_pos h3]
theorem recR_yes {d : Dsk} (h : diskOk d = true) (h2 : (loadR d logN).2 = true) (h3 : ((repS (loadR d logN).1).2.2 && (snR d).2 && reach (snR d).1 (repS (loadR d logN).1).1) = true) : recR d = (⟨if (repS (loadR d logN).1).1.base < (snR d).1.index then behW (repS (loadR d logN).1).1 (snR d).1 else (repS (loadR d logN).1).1, (snR d).1,
  decide ((repS (loadR d logN).1).2.1 < (loadR d logN).1.size) || decide ((repS (loadR d logN).1).1.base < (snR d).1.index) || (loadR d logNw).2 || (loadR d snapNw).2⟩, 0) := by unfold recR; rw [if_neg (by rw [h]; simp), if_neg (by rw [h2]; simp), if_neg (by rw [h3]; simp)]
theorem snR_in (d : Dsk) : 0 ≤ (snR d).1.index ∧ (snR d).1.index ≤ 100000 ∧ 0 ≤ (snR d).1.term ∧ (snR d).1.term ≤ 100000 := by
 unfold snR
 split
 ·have := rdSn_in (loadR d snapN).1
  exact ⟨this.1, this.2.1, this.2.2.1, this.2.2.2.1⟩
 ·exact ⟨Int.le_refl _, by decide, Int.le_refl _, by decide⟩
theorem Owns.set9R {w : World} {base g : Nat} {v : Value} {rows : List (List Value)} {cs : Array Value} {t : TypeId} (h : Owns w base 59 2 v rows) (hb : Blk w g cs t) (hne : 59 ≠ t) (x0 x1 x2 x3 x4 x5 x6 x7 x8 : Value) : Owns (((((((((w.setCell ⟨g, 0, none⟩ x0).setCell ⟨g, 1, none⟩ x1).setCell ⟨g, 2, none⟩ x2).setCell ⟨g, 3, none⟩ x3).setCell ⟨g, 4, none⟩ x4).setCell ⟨g, 5, none⟩ x5).setCell ⟨g, 6, none⟩ x6).setCell ⟨g, 7, none⟩ x7).setCell ⟨g, 8, none⟩ x8) base 59 2 v rows := by
 have hn := h.notBlk hb hne
 exact (((((((((h.other hn 0 x0).other hn 1 x1).other hn 2 x2).other hn 3 x3).other hn 4 x4).other hn 5 x5).other hn 6 x6).other hn 7 x7).other hn 8 x8)
theorem wok_sizes {x : Wl} (h : walOk x = true) : x.ents.length ≤ 60 ∧ 0 ≤ x.base ∧ x.base ≤ 100000 := wok_in h
end Go.Proofs.YtdimaoloapbeoaaGreatDoor
namespace Go.Proofs.YtdimaoloapbeoaaGreatDoor
open Go.ChangeShapes Go.WideShapes Go.ChangeAt Go.RowKit Go.PlainAid
set_option linter.unusedVariables false
set_option maxRecDepth 20000 in
set_option maxHeartbeats 3000000 in
theorem implRecover (d : Dsk) (v : Value) (w : World) (B : Nat) (hv : DiskV w B v d) (hf : Fits d) (hi : IntsOk d) (hw : wtD d ≤ 1048576) (hB : B ≤ w.heap.size) (ht : SumTab w) (a0 a1 a2 : Addr) (he : Errs w a0 a1 a2) :
  Calls Tryz.prog 7 #[v] w fun e w' => (∃ u, e = .returned (.tuple #[u, .int .i64 (recR d).2]) ∧ KptO w' w.heap.size u (recR d).1) ∧ Below w.heap.size w w' := by
 have HV : Hid (DiskV w B v d) := hv
 have HB : Hid (B ≤ w.heap.size) := hB
 have HW : Hid (wtD d ≤ 1048576) := hw
 have HT : Hid (SumTab w) := ht
 have HER : Hid (Errs w a0 a1 a2) := he
 obtain ⟨v1, v2, v3, rfl, h1, h2, h3⟩ := hv
 have cO := fun wx hx hb => openedV d (.agg #[.int .i64 d.room, .int .i64 d.next, v1, v2, v3]) wx B hx hf hi hw hb
 clear h1 h2 h3 hB hf hi hw ht he
 have hb0 : Below w.heap.size w ((w.alloc (.cells #[.int .i64 d.room, .int .i64 d.next, v1, v2, v3] 41)).alloc (.cells #[.int .i64 0, .int .i64 0, .int .i64 0, .int .i64 0, .slice none 0 0, .int .i64 0, .int .i64 0, .string ⟨#[]⟩, .bool false] 34)) := below_r2 _ _ _
 have k0 := Blk.new (w.alloc (.cells #[.int .i64 d.room, .int .i64 d.next, v1, v2, v3] 41)) #[.int .i64 0, .int .i64 0, .int .i64 0, .int .i64 0, .slice none 0 0, .int .i64 0, .int .i64 0, .string ⟨#[]⟩, .bool false] 34
 rw [World.size_alloc] at k0
 have kd := (Blk.new w #[.int .i64 d.room, .int .i64 d.next, v1, v2, v3] 41).alloc (.cells #[.int .i64 0, .int .i64 0, .int .i64 0, .int .i64 0, .slice none 0 0, .int .i64 0, .int .i64 0, .string ⟨#[]⟩, .bool false] 34)
 have y0 := kd.cell 0 _ rfl
 have y1 := kd.cell 1 _ rfl
 have y2 := kd.cell 2 _ rfl
 have y3 := kd.cell 3 _ rfl
 have y4 := kd.cell 4 _ rfl
 go_enter Tryz.func7, Tryz.ntmps7
 go_wp2_with fail
 clear y0 y1 y2 y3 y4 kd
 generalize (w.alloc (.cells #[.int .i64 d.room, .int .i64 d.next, v1, v2, v3] 41)).alloc (.cells #[.int .i64 0, .int .i64 0, .int .i64 0, .int .i64 0, .slice none 0 0, .int .i64 0, .int .i64 0, .string ⟨#[]⟩, .bool false] 34) = W at *
 have B0 : Hid (Below w.heap.size w W) := hb0
 refine (cO W (HV.out.on (B0.out.mono HB.out)) (Nat.le_trans HB.out B0.out.size)).mono ?_
 rintro e w1 ⟨hb, h⟩
 have B1 : Hid (Below w.heap.size w w1) := B0.out.trans (hb.mono B0.out.size)
 have K1 := Hid.mk (k0.on hb k0.lt)
 clear hb cO hb0 k0
 rcases h with ⟨hn, rfl⟩ | ⟨hy, p, bi, bd, bw, gs, u, rfl, hO⟩
 ·have HR : Hid (recR d = (kp0, 2)) := recR_bad hn
  clear hn
  obtain ⟨⟨r0, f0⟩, ⟨r1, f1⟩, ⟨r2, f2⟩, ⟨r3, f3⟩, ⟨r4, f4⟩, ⟨r5, f5⟩, ⟨r6, f6⟩, ⟨r7, f7⟩, ⟨r8, f8⟩, y0, y1, y2, y3, y4, y5, y6, y7, y8⟩ := resC9 (x0 := .int .i64 0) (x1 := .int .i64 0) (x2 := .int .i64 0) (x3 := .int .i64 0) (x4 := .slice none 0 0) (x5 := .int .i64 0) (x6 := .int .i64 0) (x7 := .string ⟨#[]⟩) (x8 := .bool false) K1.out
  have BE := Hid.mk (belowC9 B1.out (show w.heap.size ≤ w.heap.size + 1 by omega) (.int .i64 0) (.int .i64 0) (.int .i64 0) (.int .i64 0) (.slice none 0 0) (.int .i64 0) (.int .i64 0) (.string ⟨#[]⟩) (.bool false))
  go_wp2_with fail
  exact bodyPost_ret (v := .tuple #[.agg #[.int .i64 0, .int .i64 0, .int .i64 0, .int .i64 0, .slice none 0 0, .int .i64 0, .int .i64 0, .string ⟨#[]⟩, .bool false], .int .i64 2]) (by simp [results, go_sem, y0, y1, y2, y3, y4, y5, y6, y7, y8]) rfl ⟨⟨_, by rw [HR.out], .slice none 0 0, by rw [HR.out]; rfl, by rw [HR.out]; exact Owns.nil _ _ _ _⟩, BE.out⟩
 have hwh := (whole_iff d).1 hy
 have HOK : Hid (diskOk d = true) := hy
 have HO : Hid (∀ wx, Below w1.heap.size w1 wx → OpenD wx W.heap.size p d bi bd bw gs u) := fun wx hb => hO.on hb
 have HWH : Hid (Whole d) := hwh
 have cH := fun wx hb nm hs => hasV wx W.heap.size p d bi bd bw gs u nm (HO.out wx hb) hwh hs
 have cT := fun hf => textV w1 W.heap.size p d bi bd bw gs u logN (HO.out w1 (Below.refl _ _)) hwh hy (by decide) hf
 have hl := load_has (name := logN) hy
 have cH1 := cH w1 (Below.refl _ _) logN (by decide)
 unfold logN at cH1
 clear hy hO hwh
 cases hf : (find d logN).isSome
 ·have HR : Hid (recR d = (kp0, 1)) := recR_none HOK.out (by rw [hl, hf])
  rw [show (find d ⟨#[108, 111, 103]⟩).isSome = false from hf] at cH1
  clear hf hl cT cH
  go_wp2_with fail
  refine cH1.mono ?_
  rintro e w2 ⟨rfl, rfl⟩
  clear cH1
  obtain ⟨⟨r0, f0⟩, ⟨r1, f1⟩, ⟨r2, f2⟩, ⟨r3, f3⟩, ⟨r4, f4⟩, ⟨r5, f5⟩, ⟨r6, f6⟩, ⟨r7, f7⟩, ⟨r8, f8⟩, y0, y1, y2, y3, y4, y5, y6, y7, y8⟩ := resC9 (x0 := .int .i64 0) (x1 := .int .i64 0) (x2 := .int .i64 0) (x3 := .int .i64 0) (x4 := .slice none 0 0) (x5 := .int .i64 0) (x6 := .int .i64 0) (x7 := .string ⟨#[]⟩) (x8 := .bool false) K1.out
  have BE := Hid.mk (belowC9 B1.out (show w.heap.size ≤ w.heap.size + 1 by omega) (.int .i64 0) (.int .i64 0) (.int .i64 0) (.int .i64 0) (.slice none 0 0) (.int .i64 0) (.int .i64 0) (.string ⟨#[]⟩) (.bool false))
  go_wp2_with fail
  exact bodyPost_ret (v := .tuple #[.agg #[.int .i64 0, .int .i64 0, .int .i64 0, .int .i64 0, .slice none 0 0, .int .i64 0, .int .i64 0, .string ⟨#[]⟩, .bool false], .int .i64 1]) (by simp [results, go_sem, y0, y1, y2, y3, y4, y5, y6, y7, y8]) rfl ⟨⟨_, by rw [HR.out], .slice none 0 0, by rw [HR.out]; rfl, by rw [HR.out]; exact Owns.nil _ _ _ _⟩, BE.out⟩
 have HL : Hid ((loadR d logN).2 = true) := by unfold Hid; rw [hl, hf]
 rw [show (find d ⟨#[108, 111, 103]⟩).isSome = true from hf] at cH1
 have cT1 := cT hf
 clear hf hl cT
 have HRB := Hid.mk (@recR_no d HOK.out HL.out)
 have HRY := Hid.mk (@recR_yes d HOK.out HL.out)
 have HSZ : Hid ((loadR d logN).1.size ≤ 1048576) := loadR_size HW.out
 have HSN := Hid.mk (snR_in d)
 have hN1 := load_has (name := logNw) HOK.out
 have hN2 := load_has (name := snapNw) HOK.out
 rw [hN1, hN2] at HRY
 clear hN1 hN2
 unfold logN at cT1
 rw [show loadR d ⟨#[108, 111, 103]⟩ = loadR d logN from rfl] at cT1
 have cS := fun wx (hb : Below w1.heap.size w1 wx) => snapV wx W.heap.size p d bi bd bw gs u (fun wy hy => HO.out wy (hb.trans (hy.mono hb.size))) HWH.out HOK.out HW.out (HT.out.on (B1.out.trans (hb.mono B1.out.size))) a0 a1 a2 (HER.out.on (B1.out.trans (hb.mono B1.out.size)))
 generalize (loadR d logN).1 = tx at *
 generalize snR d = sn at *
 obtain ⟨s, whole⟩ := sn
 go_wp2_with fail
 refine cH1.mono ?_
 rintro e w2 ⟨rfl, rfl⟩
 go_wp2_with fail
 refine cT1.mono ?_
 rintro e w2 ⟨rfl, rfl⟩
 go_wp2_with fail
 refine (implReplay tx w1 HSZ.out (HT.out.on B1.out) a0 a1 a2 (HER.out.on B1.out)).mono ?_
 rintro e w2 ⟨K, vw, hE, rfl, hWO, hb2⟩
 rw [repS_eq hE] at hWO ⊢
 have HRO := Hid.mk (repS_ok tx)
 generalize repS tx = rs at *
 obtain ⟨x, n, ok⟩ := rs
 simp only at *
 obtain ⟨eu, rfl, hOw⟩ := hWO
 obtain ⟨eA, em, ec, rfl⟩ := hOw.shape
 have B2 : Hid (Below w.heap.size w w2) := B1.out.trans (hb2.mono B1.out.size)
 have T2 : Hid (Below w1.heap.size w1 w2) := hb2
 have HK1 : Hid (w.heap.size + 1 < w1.heap.size) := K1.out.lt
 have HP1 : Hid (w1.heap.size ≤ w2.heap.size) := hb2.size
 have K2 := Hid.mk (K1.out.on hb2 K1.out.lt)
 have O2 := Hid.mk hOw
 have HZ1 : Hid (w.heap.size ≤ w1.heap.size) := B1.out.size
 clear hE hb2 hOw K1 B1 cH1 cT1
 have KW := Hid.mk (Blk.new w2 #[.int .i64 x.term, .int .i64 x.vote, .int .i64 x.base, .int .i64 x.bterm, .slice eA em ec] 30)
 have b3 : Below w2.heap.size w2 (w2.alloc (.cells #[.int .i64 x.term, .int .i64 x.vote, .int .i64 x.base, .int .i64 x.bterm, .slice eA em ec] 30)) := (Below.refl _ _).alloc (Nat.le_refl _) _
 have B3 : Hid (Below w.heap.size w (w2.alloc (.cells #[.int .i64 x.term, .int .i64 x.vote, .int .i64 x.base, .int .i64 x.bterm, .slice eA em ec] 30))) := B2.out.trans (b3.mono B2.out.size)
 have T3 : Hid (Below w1.heap.size w1 (w2.alloc (.cells #[.int .i64 x.term, .int .i64 x.vote, .int .i64 x.base, .int .i64 x.bterm, .slice eA em ec] 30))) := T2.out.trans (b3.mono T2.out.size)
 have K3 := Hid.mk (K2.out.on b3 K2.out.lt)
 have O3 := Hid.mk (O2.out.on b3)
 clear b3 K2 B2 T2 O2
 go_wp2_with fail
 generalize hpw : w2.heap.size = pw at *
 clear hpw
 generalize w2.alloc (.cells #[.int .i64 x.term, .int .i64 x.vote, .int .i64 x.base, .int .i64 x.bterm, .slice eA em ec] 30) = W3 at *
 refine (cS W3 T3.out).mono ?_
 rintro e w4 ⟨rfl, hb4⟩
 have B4 : Hid (Below w.heap.size w w4) := B3.out.trans (hb4.mono B3.out.size)
 have T4 : Hid (Below w1.heap.size w1 w4) := T3.out.trans (hb4.mono T3.out.size)
 have K4 := Hid.mk (K3.out.on hb4 K3.out.lt)
 have W4 := Hid.mk (KW.out.on hb4 KW.out.lt)
 have O4 := Hid.mk (O3.out.on hb4)
 have HP2 : Hid (pw < w4.heap.size) := W4.out.lt
 clear hb4 B3 T3 K3 KW O3 cS
 unfold vSnp
 have KS := Hid.mk (Blk.new w4 #[.int .i64 s.index, .int .i64 s.term, .string s.data] 32)
 have b5 : Below w4.heap.size w4 (w4.alloc (.cells #[.int .i64 s.index, .int .i64 s.term, .string s.data] 32)) := (Below.refl _ _).alloc (Nat.le_refl _) _
 have B5 : Hid (Below w.heap.size w (w4.alloc (.cells #[.int .i64 s.index, .int .i64 s.term, .string s.data] 32))) := B4.out.trans (b5.mono B4.out.size)
 have T5 : Hid (Below w1.heap.size w1 (w4.alloc (.cells #[.int .i64 s.index, .int .i64 s.term, .string s.data] 32))) := T4.out.trans (b5.mono T4.out.size)
 have K5 := Hid.mk (K4.out.on b5 K4.out.lt)
 have W5 := Hid.mk (W4.out.on b5 W4.out.lt)
 have O5 := Hid.mk (O4.out.on b5)
 clear b5 K4 B4 T4 O4 W4
 go_upto_region 9 with fail
 generalize hps : w4.heap.size = ps at *
 clear hps
 generalize w4.alloc (.cells #[.int .i64 s.index, .int .i64 s.term, .string s.data] 32) = X5 at *
 have q0 := W5.out.cell 0 _ rfl
 have q1 := W5.out.cell 1 _ rfl
 have q2 := W5.out.cell 2 _ rfl
 have q3 := W5.out.cell 3 _ rfl
 have q4 := W5.out.cell 4 _ rfl
 have s0 := KS.out.cell 0 _ rfl
 have s1 := KS.out.cell 1 _ rfl
 have s2 := KS.out.cell 2 _ rfl
 cases ok with
 | false =>
  have HR : Hid (recR d = (kp0, 2)) := HRB.out rfl
  obtain ⟨⟨r0, f0⟩, ⟨r1, f1⟩, ⟨r2, f2⟩, ⟨r3, f3⟩, ⟨r4, f4⟩, ⟨r5, f5⟩, ⟨r6, f6⟩, ⟨r7, f7⟩, ⟨r8, f8⟩, y0, y1, y2, y3, y4, y5, y6, y7, y8⟩ := resC9 (x0 := .int .i64 0) (x1 := .int .i64 0) (x2 := .int .i64 0) (x3 := .int .i64 0) (x4 := .slice none 0 0) (x5 := .int .i64 0) (x6 := .int .i64 0) (x7 := .string ⟨#[]⟩) (x8 := .bool false) K5.out
  have BE := Hid.mk (belowC9 B5.out (show w.heap.size ≤ w.heap.size + 1 by omega) (.int .i64 0) (.int .i64 0) (.int .i64 0) (.int .i64 0) (.slice none 0 0) (.int .i64 0) (.int .i64 0) (.string ⟨#[]⟩) (.bool false))
  go_wp2_with fail
  exact bodyPost_ret (v := .tuple #[.agg #[.int .i64 0, .int .i64 0, .int .i64 0, .int .i64 0, .slice none 0 0, .int .i64 0, .int .i64 0, .string ⟨#[]⟩, .bool false], .int .i64 2]) (by simp [results, go_sem, y0, y1, y2, y3, y4, y5, y6, y7, y8]) rfl ⟨⟨_, by rw [HR.out], .slice none 0 0, by rw [HR.out]; rfl, by rw [HR.out]; exact Owns.nil _ _ _ _⟩, BE.out⟩
 | true =>
 cases whole with
 | false =>
  have HR : Hid (recR d = (kp0, 2)) := HRB.out rfl
  obtain ⟨⟨r0, f0⟩, ⟨r1, f1⟩, ⟨r2, f2⟩, ⟨r3, f3⟩, ⟨r4, f4⟩, ⟨r5, f5⟩, ⟨r6, f6⟩, ⟨r7, f7⟩, ⟨r8, f8⟩, y0, y1, y2, y3, y4, y5, y6, y7, y8⟩ := resC9 (x0 := .int .i64 0) (x1 := .int .i64 0) (x2 := .int .i64 0) (x3 := .int .i64 0) (x4 := .slice none 0 0) (x5 := .int .i64 0) (x6 := .int .i64 0) (x7 := .string ⟨#[]⟩) (x8 := .bool false) K5.out
  have BE := Hid.mk (belowC9 B5.out (show w.heap.size ≤ w.heap.size + 1 by omega) (.int .i64 0) (.int .i64 0) (.int .i64 0) (.int .i64 0) (.slice none 0 0) (.int .i64 0) (.int .i64 0) (.string ⟨#[]⟩) (.bool false))
  go_wp2_with fail
  exact bodyPost_ret (v := .tuple #[.agg #[.int .i64 0, .int .i64 0, .int .i64 0, .int .i64 0, .slice none 0 0, .int .i64 0, .int .i64 0, .string ⟨#[]⟩, .bool false], .int .i64 2]) (by simp [results, go_sem, y0, y1, y2, y3, y4, y5, y6, y7, y8]) rfl ⟨⟨_, by rw [HR.out], .slice none 0 0, by rw [HR.out]; rfl, by rw [HR.out]; exact Owns.nil _ _ _ _⟩, BE.out⟩
 | true =>
 have cRe := fun wx => reachesV s x (.slice eA em ec) wx
 unfold vSnp at cRe
 go_wp2_with fail
 clear q0 q1 q2 q3 q4 s0 s1 s2
 refine (cRe X5).mono ?_
 rintro e w6 ⟨rfl, hb6⟩
 have B6 : Hid (Below w.heap.size w w6) := B5.out.trans (hb6.mono B5.out.size)
 have T6 : Hid (Below w1.heap.size w1 w6) := T5.out.trans (hb6.mono T5.out.size)
 have K6 := Hid.mk (K5.out.on hb6 K5.out.lt)
 have W6 := Hid.mk (W5.out.on hb6 W5.out.lt)
 have S6 := Hid.mk (KS.out.on hb6 KS.out.lt)
 have O6 := Hid.mk (O5.out.on hb6)
 clear hb6 B5 T5 K5 W5 KS O5 cRe
 have HOK2 : Hid (walOk x = true) := HRO.out (by first | exact True.intro | rfl)
 cases hre : reach s x
 ·have HR : Hid (recR d = (kp0, 2)) := HRB.out (by rw [hre]; rfl)
  clear hre
  obtain ⟨⟨r0, f0⟩, ⟨r1, f1⟩, ⟨r2, f2⟩, ⟨r3, f3⟩, ⟨r4, f4⟩, ⟨r5, f5⟩, ⟨r6, f6⟩, ⟨r7, f7⟩, ⟨r8, f8⟩, y0, y1, y2, y3, y4, y5, y6, y7, y8⟩ := resC9 (x0 := .int .i64 0) (x1 := .int .i64 0) (x2 := .int .i64 0) (x3 := .int .i64 0) (x4 := .slice none 0 0) (x5 := .int .i64 0) (x6 := .int .i64 0) (x7 := .string ⟨#[]⟩) (x8 := .bool false) K6.out
  have BE := Hid.mk (belowC9 B6.out (show w.heap.size ≤ w.heap.size + 1 by omega) (.int .i64 0) (.int .i64 0) (.int .i64 0) (.int .i64 0) (.slice none 0 0) (.int .i64 0) (.int .i64 0) (.string ⟨#[]⟩) (.bool false))
  go_wp2_with fail
  exact bodyPost_ret (v := .tuple #[.agg #[.int .i64 0, .int .i64 0, .int .i64 0, .int .i64 0, .slice none 0 0, .int .i64 0, .int .i64 0, .string ⟨#[]⟩, .bool false], .int .i64 2]) (by simp [results, go_sem, y0, y1, y2, y3, y4, y5, y6, y7, y8]) rfl ⟨⟨_, by rw [HR.out], .slice none 0 0, by rw [HR.out]; rfl, by rw [HR.out]; exact Owns.nil _ _ _ _⟩, BE.out⟩
 have HRY2 : Hid (recR d = (⟨if x.base < s.index then behW x s else x, s, decide (n < tx.size) || decide (x.base < s.index) || (find d logNw).isSome || (find d snapNw).isSome⟩, 0)) := HRY.out (by rw [hre]; rfl)
 clear hre HRY HRB
 obtain ⟨z1, z2, z3⟩ := wok_sizes HOK2.out
 obtain ⟨i1, i2, i3, i4⟩ := HSN.out
 have HZ : Hid (x.ents.length ≤ 60 ∧ 0 ≤ x.base ∧ x.base ≤ 100000 ∧ s.index ≤ 100000) := ⟨z1, z2, z3, i2⟩
 have qt : (tx.size : Int) ≤ 1048576 := by have := HSZ.out; omega
 clear z1 z2 z3 i1 i2 i3 i4
 have q0 := W6.out.cell 0 _ rfl
 have q1 := W6.out.cell 1 _ rfl
 have q2 := W6.out.cell 2 _ rfl
 have q3 := W6.out.cell 3 _ rfl
 have q4 := W6.out.cell 4 _ rfl
 have s0 := S6.out.cell 0 _ rfl
 have s1 := S6.out.cell 1 _ rfl
 have s2 := S6.out.cell 2 _ rfl
 obtain ⟨y, hy⟩ : ∃ y, y = if x.base < s.index then behW x s else x := ⟨_, rfl⟩
 have HY : Hid (y = if x.base < s.index then behW x s else x) := hy
 rw [← hy] at HRY2
 clear hy
 go_upto_if 53 with fail
 generalize hld : decide (x.base < s.index) = ld at *
 have HLD : Hid (decide (x.base < s.index) = ld) := hld
 clear hld
 go_cut [56] from 54 to 56 (fun s56 wc => ∃ nA nm nc, Blk wc pw #[.int .i64 y.term, .int .i64 y.vote, .int .i64 y.base, .int .i64 y.bterm, .slice nA nm nc] 30 ∧ Owns wc w.heap.size 59 2 (.slice nA nm nc) (entR y.ents) ∧ Blk wc (w.heap.size + 1) #[.int .i64 0, .int .i64 0, .int .i64 0, .int .i64 0, .slice none 0 0, .int .i64 0, .int .i64 0, .string ⟨#[]⟩, .bool false] 34 ∧ Blk wc ps #[.int .i64 s.index, .int .i64 s.term, .string s.data] 32 ∧ Below w.heap.size w wc ∧ Below w1.heap.size w1 wc)
 case first =>
  cases ld with
  | true =>
   have hlt : x.base < s.index := of_decide_eq_true HLD.out
   have cB := behindV x s (.slice eA em ec) w6 w6.heap.size O6.out.lies (Nat.le_refl _) HZ.out.1 HZ.out.2.1 HZ.out.2.2.1 hlt HZ.out.2.2.2
   rw [show behW x s = y by rw [HY.out, if_pos hlt]] at cB
   unfold vSnp at cB
   clear hlt
   go_wp2_with fail
   refine cB.mono ?_
   rintro e w7 ⟨⟨u', rfl, hO7⟩, hb7⟩
   obtain ⟨nA, nm, nc, rfl⟩ := hO7.shape
   have k7 := Hid.mk (K6.out.on hb7 K6.out.lt)
   have W7 := Hid.mk (W6.out.on hb7 W6.out.lt)
   have S7 := Hid.mk (S6.out.on hb7 S6.out.lt)
   have b7 := Hid.mk (B6.out.trans (hb7.mono B6.out.size))
   have t7 := Hid.mk (T6.out.trans (hb7.mono T6.out.size))
   have O7 := Hid.mk (hO7.mono B6.out.size)
   have HS7 : Hid (ps ≠ pw) := by
    intro e
    have h1 := S7.out
    have h2 := W7.out
    rw [e] at h1
    unfold Blk at h1 h2
    rw [h1] at h2
    simp at h2
   clear q0 q1 q2 q3 q4 s0 s1 s2 cB hO7 hb7
   obtain ⟨⟨r0, f0⟩, ⟨r1, f1⟩, ⟨r2, f2⟩, ⟨r3, f3⟩, ⟨r4, f4⟩, kE⟩ := res5R (x0 := .int .i64 y.term) (x1 := .int .i64 y.vote) (x2 := .int .i64 y.base) (x3 := .int .i64 y.bterm) (x4 := .slice nA nm nc) W7.out
   have KE := Hid.mk kE
   have OE := Hid.mk (O7.out.set5R W7.out (by decide) (.int .i64 y.term) (.int .i64 y.vote) (.int .i64 y.base) (.int .i64 y.bterm) (.slice nA nm nc))
   have hne1 : w.heap.size + 1 ≠ pw := by have := HK1.out; have := HP1.out; omega
   have hne2 : ps ≠ pw := HS7.out
   have KK := Hid.mk (((((k7.out.other hne1 0 (.int .i64 y.term)).other hne1 1 (.int .i64 y.vote)).other hne1 2 (.int .i64 y.base)).other hne1 3 (.int .i64 y.bterm)).other hne1 4 (.slice nA nm nc))
   have SK := Hid.mk (((((S7.out.other hne2 0 (.int .i64 y.term)).other hne2 1 (.int .i64 y.vote)).other hne2 2 (.int .i64 y.base)).other hne2 3 (.int .i64 y.bterm)).other hne2 4 (.slice nA nm nc))
   have hpw1 : w.heap.size ≤ pw := by have := HK1.out; have := HP1.out; omega
   have hpw2 : w1.heap.size ≤ pw := HP1.out
   have BE := Hid.mk (((((b7.out.setCell (p := ⟨pw, 0, none⟩) hpw1 (.int .i64 y.term)).setCell (p := ⟨pw, 1, none⟩) hpw1 (.int .i64 y.vote)).setCell (p := ⟨pw, 2, none⟩) hpw1 (.int .i64 y.base)).setCell (p := ⟨pw, 3, none⟩) hpw1 (.int .i64 y.bterm)).setCell (p := ⟨pw, 4, none⟩) hpw1 (.slice nA nm nc))
   have TE := Hid.mk (((((t7.out.setCell (p := ⟨pw, 0, none⟩) hpw2 (.int .i64 y.term)).setCell (p := ⟨pw, 1, none⟩) hpw2 (.int .i64 y.vote)).setCell (p := ⟨pw, 2, none⟩) hpw2 (.int .i64 y.base)).setCell (p := ⟨pw, 3, none⟩) hpw2 (.int .i64 y.bterm)).setCell (p := ⟨pw, 4, none⟩) hpw2 (.slice nA nm nc))
   clear kE k7 W7 S7 b7 t7 O7 hne1 hne2 hpw1 hpw2
   go_wp2_with fail
   go_meet
   exact ⟨nA, nm, nc, KE.out, OE.out, KK.out, SK.out, BE.out, TE.out⟩
  | false =>
   have hyx : y = x := by rw [HY.out, if_neg (of_decide_eq_false HLD.out)]
   go_wp2_with fail
   go_meet
   subst hyx
   exact ⟨eA, em, ec, W6.out, O6.out.mono HZ1.out, K6.out, S6.out, B6.out, T6.out⟩
 case rest =>
  obtain ⟨nA, nm, nc, h1, h2, h3, h4, h5, h6⟩ := hcut
  have WZ := Hid.mk h1
  have OZ := Hid.mk h2
  have KZ := Hid.mk h3
  have SZ := Hid.mk h4
  have BZ := Hid.mk h5
  have q0 := h1.cell 0 _ rfl
  have q1 := h1.cell 1 _ rfl
  have q2 := h1.cell 2 _ rfl
  have q3 := h1.cell 3 _ rfl
  have q4 := h1.cell 4 _ rfl
  have s0 := h4.cell 0 _ rfl
  have s1 := h4.cell 1 _ rfl
  have s2 := h4.cell 2 _ rfl
  have cN1 := cH wc h6 logNw (by decide)
  have cN2 := cH wc h6 snapNw (by decide)
  unfold logNw at cN1
  unfold snapNw at cN2
  have HRY3 : Hid (recR d = (⟨y, s, decide (n < tx.size) || ld || (find d ⟨#[108, 111, 103, 46, 110, 101, 119]⟩).isSome || (find d ⟨#[115, 110, 97, 112, 46, 110, 101, 119]⟩).isSome⟩, 0)) := HRY2.out
  clear h1 h2 h3 h4 h5 h6 W6 O6 K6 S6 B6 T6 HRY2 cH
  by_cases hn : n < tx.size
  ·have hni : (n : Int) < (tx.size : Int) := by omega
   have HR : Hid (recR d = (⟨y, s, true⟩, 0)) := by unfold Hid; rw [HRY3.out, decide_eq_true hn, Bool.true_or, Bool.true_or, Bool.true_or]
   obtain ⟨⟨r0, f0⟩, ⟨r1, f1⟩, ⟨r2, f2⟩, ⟨r3, f3⟩, ⟨r4, f4⟩, ⟨r5, f5⟩, ⟨r6, f6⟩, ⟨r7, f7⟩, ⟨r8, f8⟩, y0, y1, y2, y3, y4, y5, y6, y7, y8⟩ := resC9 (x0 := .int .i64 y.term) (x1 := .int .i64 y.vote) (x2 := .int .i64 y.base) (x3 := .int .i64 y.bterm) (x4 := .slice nA nm nc) (x5 := .int .i64 s.index) (x6 := .int .i64 s.term) (x7 := .string s.data) (x8 := .bool true) KZ.out
   have BE := Hid.mk (belowC9 BZ.out (show w.heap.size ≤ w.heap.size + 1 by omega) (.int .i64 y.term) (.int .i64 y.vote) (.int .i64 y.base) (.int .i64 y.bterm) (.slice nA nm nc) (.int .i64 s.index) (.int .i64 s.term) (.string s.data) (.bool true))
   have OE := Hid.mk (OZ.out.set9R KZ.out (by decide) (.int .i64 y.term) (.int .i64 y.vote) (.int .i64 y.base) (.int .i64 y.bterm) (.slice nA nm nc) (.int .i64 s.index) (.int .i64 s.term) (.string s.data) (.bool true))
   go_wp2_with fail
   exact bodyPost_ret (v := .tuple #[.agg #[.int .i64 y.term, .int .i64 y.vote, .int .i64 y.base, .int .i64 y.bterm, .slice nA nm nc, .int .i64 s.index, .int .i64 s.term, .string s.data, .bool true], .int .i64 0]) (by simp [results, go_sem, y0, y1, y2, y3, y4, y5, y6, y7, y8]) rfl ⟨⟨_, by rw [HR.out], .slice nA nm nc, by rw [HR.out]; rfl, by rw [HR.out]; exact OE.out⟩, BE.out⟩
  have hni : ¬ (n : Int) < (tx.size : Int) := by omega
  have hnd : decide ((n : Int) < (tx.size : Int)) = false := decide_eq_false hni
  have hnd2 : decide (n < tx.size) = false := decide_eq_false hn
  rw [hnd2, Bool.false_or] at HRY3
  cases ld with
  | true =>
   have HR : Hid (recR d = (⟨y, s, true⟩, 0)) := by unfold Hid; rw [HRY3.out, Bool.true_or, Bool.true_or]
   obtain ⟨⟨r0, f0⟩, ⟨r1, f1⟩, ⟨r2, f2⟩, ⟨r3, f3⟩, ⟨r4, f4⟩, ⟨r5, f5⟩, ⟨r6, f6⟩, ⟨r7, f7⟩, ⟨r8, f8⟩, y0, y1, y2, y3, y4, y5, y6, y7, y8⟩ := resC9 (x0 := .int .i64 y.term) (x1 := .int .i64 y.vote) (x2 := .int .i64 y.base) (x3 := .int .i64 y.bterm) (x4 := .slice nA nm nc) (x5 := .int .i64 s.index) (x6 := .int .i64 s.term) (x7 := .string s.data) (x8 := .bool true) KZ.out
   have BE := Hid.mk (belowC9 BZ.out (show w.heap.size ≤ w.heap.size + 1 by omega) (.int .i64 y.term) (.int .i64 y.vote) (.int .i64 y.base) (.int .i64 y.bterm) (.slice nA nm nc) (.int .i64 s.index) (.int .i64 s.term) (.string s.data) (.bool true))
   have OE := Hid.mk (OZ.out.set9R KZ.out (by decide) (.int .i64 y.term) (.int .i64 y.vote) (.int .i64 y.base) (.int .i64 y.bterm) (.slice nA nm nc) (.int .i64 s.index) (.int .i64 s.term) (.string s.data) (.bool true))
   go_wp2_with fail
   exact bodyPost_ret (v := .tuple #[.agg #[.int .i64 y.term, .int .i64 y.vote, .int .i64 y.base, .int .i64 y.bterm, .slice nA nm nc, .int .i64 s.index, .int .i64 s.term, .string s.data, .bool true], .int .i64 0]) (by simp [results, go_sem, y0, y1, y2, y3, y4, y5, y6, y7, y8]) rfl ⟨⟨_, by rw [HR.out], .slice nA nm nc, by rw [HR.out]; rfl, by rw [HR.out]; exact OE.out⟩, BE.out⟩
  | false =>
  rw [Bool.false_or] at HRY3
  cases hf1 : (find d ⟨#[108, 111, 103, 46, 110, 101, 119]⟩).isSome
  rotate_left
  ·rw [hf1] at cN1 HRY3
   have HR : Hid (recR d = (⟨y, s, true⟩, 0)) := by unfold Hid; rw [HRY3.out, Bool.true_or]
   clear hf1
   go_wp2_with fail
   refine cN1.mono ?_
   rintro e w8 ⟨rfl, rfl⟩
   obtain ⟨⟨r0, f0⟩, ⟨r1, f1⟩, ⟨r2, f2⟩, ⟨r3, f3⟩, ⟨r4, f4⟩, ⟨r5, f5⟩, ⟨r6, f6⟩, ⟨r7, f7⟩, ⟨r8, f8⟩, y0, y1, y2, y3, y4, y5, y6, y7, y8⟩ := resC9 (x0 := .int .i64 y.term) (x1 := .int .i64 y.vote) (x2 := .int .i64 y.base) (x3 := .int .i64 y.bterm) (x4 := .slice nA nm nc) (x5 := .int .i64 s.index) (x6 := .int .i64 s.term) (x7 := .string s.data) (x8 := .bool true) KZ.out
   have BE := Hid.mk (belowC9 BZ.out (show w.heap.size ≤ w.heap.size + 1 by omega) (.int .i64 y.term) (.int .i64 y.vote) (.int .i64 y.base) (.int .i64 y.bterm) (.slice nA nm nc) (.int .i64 s.index) (.int .i64 s.term) (.string s.data) (.bool true))
   have OE := Hid.mk (OZ.out.set9R KZ.out (by decide) (.int .i64 y.term) (.int .i64 y.vote) (.int .i64 y.base) (.int .i64 y.bterm) (.slice nA nm nc) (.int .i64 s.index) (.int .i64 s.term) (.string s.data) (.bool true))
   go_wp2_with fail
   exact bodyPost_ret (v := .tuple #[.agg #[.int .i64 y.term, .int .i64 y.vote, .int .i64 y.base, .int .i64 y.bterm, .slice nA nm nc, .int .i64 s.index, .int .i64 s.term, .string s.data, .bool true], .int .i64 0]) (by simp [results, go_sem, y0, y1, y2, y3, y4, y5, y6, y7, y8]) rfl ⟨⟨_, by rw [HR.out], .slice nA nm nc, by rw [HR.out]; rfl, by rw [HR.out]; exact OE.out⟩, BE.out⟩
  rw [hf1] at cN1 HRY3
  rw [Bool.false_or] at HRY3
  clear hf1
  go_wp2_with fail
  refine cN1.mono ?_
  rintro e w8 ⟨rfl, rfl⟩
  go_wp2_with fail
  refine cN2.mono ?_
  rintro e w8 ⟨rfl, rfl⟩
  clear cN1 cN2
  generalize (find d ⟨#[115, 110, 97, 112, 46, 110, 101, 119]⟩).isSome = bb at *
  have HR := HRY3
  obtain ⟨⟨r0, f0⟩, ⟨r1, f1⟩, ⟨r2, f2⟩, ⟨r3, f3⟩, ⟨r4, f4⟩, ⟨r5, f5⟩, ⟨r6, f6⟩, ⟨r7, f7⟩, ⟨r8, f8⟩, y0, y1, y2, y3, y4, y5, y6, y7, y8⟩ := resC9 (x0 := .int .i64 y.term) (x1 := .int .i64 y.vote) (x2 := .int .i64 y.base) (x3 := .int .i64 y.bterm) (x4 := .slice nA nm nc) (x5 := .int .i64 s.index) (x6 := .int .i64 s.term) (x7 := .string s.data) (x8 := .bool bb) KZ.out
  have BE := Hid.mk (belowC9 BZ.out (show w.heap.size ≤ w.heap.size + 1 by omega) (.int .i64 y.term) (.int .i64 y.vote) (.int .i64 y.base) (.int .i64 y.bterm) (.slice nA nm nc) (.int .i64 s.index) (.int .i64 s.term) (.string s.data) (.bool bb))
  have OE := Hid.mk (OZ.out.set9R KZ.out (by decide) (.int .i64 y.term) (.int .i64 y.vote) (.int .i64 y.base) (.int .i64 y.bterm) (.slice nA nm nc) (.int .i64 s.index) (.int .i64 s.term) (.string s.data) (.bool bb))
  go_wp2_with fail
  exact bodyPost_ret (v := .tuple #[.agg #[.int .i64 y.term, .int .i64 y.vote, .int .i64 y.base, .int .i64 y.bterm, .slice nA nm nc, .int .i64 s.index, .int .i64 s.term, .string s.data, .bool bb], .int .i64 0]) (by simp [results, go_sem, y0, y1, y2, y3, y4, y5, y6, y7, y8]) rfl ⟨⟨_, by rw [HR.out], .slice nA nm nc, by rw [HR.out]; rfl, by rw [HR.out]; exact OE.out⟩, BE.out⟩
end Go.Proofs.YtdimaoloapbeoaaGreatDoor
