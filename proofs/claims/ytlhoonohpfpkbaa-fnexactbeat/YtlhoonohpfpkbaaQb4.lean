/- WokImpl CoI1 CoTm CoOth CoI2 CoI3 -/
import Derived.Test.YtlhoonohpfpkbaaRows
import Derived.Test.YtlhoonohpfpkbaaQb3
import Derived.Test.YtlhoonohpfpkbaaQb0
import Derived.Test.YtlhoonohpfpkbaaQb2
import Derived.Deep.Cut
import Derived.Handy
open List (setIfInBounds_toArray set_cons_zero set_cons_succ)
namespace Go.Proofs.Ytlhoonohpfpkbaa
open Go.ChangeShapes Go.WideShapes Go.ChangeAt Go.RowKit Go.PlainAid
set_option linter.unusedVariables false
def leOk (top : Int) : Int → List Ent → Bool
 | _, [] => true
 | least, e :: r => decide (least ≤ e.term) && decide (e.term ≤ top) && decide (e.data.size ≤ 900) && leOk top e.term r
theorem entsOk_le (top : Int) : ∀ (l : List Ent) (last : Int), entsOk top last l = leOk top (max last 1) l
 | [], _ => rfl
 | e :: r, last => by
  unfold entsOk leOk
  rw [entsOk_le top r e.term]
  by_cases h1 : 1 ≤ e.term
  ·rw [Int.max_eq_left h1, decide_eq_true h1, Bool.true_and]
   congr 3
   rw [decide_eq_decide]
   omega
  ·rw [decide_eq_false h1, decide_eq_false (show ¬ max last 1 ≤ e.term by omega)]
   simp
def leAt (bt : Int) (l : List Ent) (k : Nat) : Int := if k = 0 then max bt 1 else (l.getD (k - 1) default).term
theorem le_step (top last : Int) (l : List Ent) (k : Nat) (h : k < l.length) :
  leOk top last (l.drop k) = (decide (last ≤ (l.getD k default).term) && decide ((l.getD k default).term ≤ top) && decide ((l.getD k default).data.size ≤ 900) && leOk top (l.getD k default).term (l.drop (k + 1))) := by
 rw [List.drop_eq_getElem_cons h, ← getD_at l k h]
 rfl
theorem leAt_succ (bt : Int) (l : List Ent) (k : Nat) : leAt bt l (k + 1) = (l.getD k default).term := rfl
def entsAll (x : Wl) : Bool := decide (x.ents.length ≤ 60) && decide (x.base + x.ents.length ≤ 100000) && entsOk x.term x.bterm x.ents
set_option maxHeartbeats 2000000 in
theorem entriesOkV (x : Wl) (v : Value) (w : World) (B : Nat) (hv : WalV w B v x) (hf : FitsW x) (hB : B ≤ w.heap.size) (hb1 : 0 ≤ x.base) (hb2 : x.base ≤ 100000) : Calls Try.prog 80 #[v] w fun e w' => e = .returned (.bool (entsAll x)) ∧ Below w.heap.size w w' := by
 obtain ⟨u, rfl, hl⟩ := hv
 obtain ⟨A, cap, rfl, hlk⟩ := ent_look hl
 have HL : Hid (∀ j, j < x.ents.length → ∃ g off, A = some ⟨g, off, none⟩ ∧ g < B ∧ _) := hlk
 have HB : Hid (B ≤ w.heap.size) := hB
 have hn0 := hf.n
 have HF : Hid (∀ e ∈ x.ents, e.data.size ≤ maxLen) := hf.d
 unfold maxLen at hn0
 have q1 : (x.ents.length : Int) ≤ 9223372036854775807 := by omega
 have HE : Hid (entsAll x = (decide (x.ents.length ≤ 60) && decide (x.base + x.ents.length ≤ 100000) && leOk x.term (max x.bterm 1) x.ents)) := by unfold Hid entsAll; rw [entsOk_le]
 clear hl hlk hB hf hn0
 generalize hN : x.ents.length = n at *
 have B0 : Hid (Below w.heap.size w (w.alloc (.cells #[.int .i64 x.term, .int .i64 x.vote, .int .i64 x.base, .int .i64 x.bterm, .slice A n cap] 68))) := (Below.refl _ _).alloc (Nat.le_refl _) _
 have K0 : Hid (Blk (w.alloc (.cells #[.int .i64 x.term, .int .i64 x.vote, .int .i64 x.base, .int .i64 x.bterm, .slice A n cap] 68)) w.heap.size #[.int .i64 x.term, .int .i64 x.vote, .int .i64 x.base, .int .i64 x.bterm, .slice A n cap] 68) := Blk.new _ _ _
 by_cases h5 : n ≤ 60
 rotate_left
 ·rw [decide_eq_false h5] at HE
  have h5' : (60 : Int) < (n : Int) := by omega
  go_enter Try.func80, Try.ntmps80
  go_wp2_with fail
  go_ret
  exact ⟨by rw [HE.out]; rfl, B0.out⟩
 rw [decide_eq_true h5] at HE
 have h5' : (n : Int) ≤ 60 := by omega
 have hw1 : IntKind.i64.wrap (x.base + (n : Int)) = x.base + (n : Int) := by rw [IntKind.wrap_i64]; omega
 by_cases h6 : x.base + (n : Int) ≤ 100000
 rotate_left
 ·rw [decide_eq_false h6] at HE
  have h6' : (100000 : Int) < x.base + (n : Int) := by omega
  go_enter Try.func80, Try.ntmps80
  go_wp2_with fail
  go_ret
  exact ⟨by rw [HE.out]; rfl, B0.out⟩
 rw [decide_eq_true h6] at HE
 have HE : Hid (entsAll x = leOk x.term (max x.bterm 1) x.ents) := by unfold Hid; rw [HE.out]; simp
 by_cases hm : 1 ≤ x.bterm
 all_goals try have hm2 : x.bterm < 1 := by omega
 all_goals
  go_enter Try.func80, Try.ntmps80
  go_wp2_with fail
  generalize w.alloc (.cells #[.int .i64 x.term, .int .i64 x.vote, .int .i64 x.base, .int .i64 x.bterm, .slice A n cap] 68) = W at *
  clear hw1 h6
  go_loopw [3, 25] (fun v3 v4 wr => ∃ k : Nat, k ≤ n ∧ v4 = .int .i64 (k : Int) ∧ v3 = .int .i64 (leAt x.bterm x.ents k) ∧ Hid (entsAll x = leOk x.term (leAt x.bterm x.ents k) (x.ents.drop k)) ∧ Below W.heap.size W wr) (fun _ i _ => n - (intOf i).toNat)
  case atStart => exact ⟨0, by omega, rfl, by first | rfl | (unfold leAt; simp [Int.max_def]; try omega), HE, Below.refl _ _⟩
  case round =>
   obtain ⟨k, hk, rfl, rfl, HR, hb⟩ := hrel
   have HB1 : Hid (Below W.heap.size W wr) := hb
   have hlt0 := K0.out.lt
   have c0 := (hb.cell (p := ⟨w.heap.size, 0, none⟩) hlt0).trans (K0.out.cell 0 (.int .i64 x.term) rfl)
   have hsz := hb.size
   clear hb hlt0
   by_cases hlt : k < n
   ·have q4 : (k : Int) < (n : Int) := by omega
    obtain ⟨g, off, rfl, hg, hc0, hc1⟩ := HL.out k (by omega)
    have hgw : g < W.heap.size := Nat.lt_of_lt_of_le hg (Nat.le_trans HB.out B0.out.size)
    rw [← B0.out.cell (p := ⟨_, _, none⟩) (Nat.lt_of_lt_of_le hg HB.out), ← HB1.out.cell (p := ⟨_, _, none⟩) hgw] at hc0 hc1
    have HX := le_step x.term (leAt x.bterm x.ents k) x.ents k (by omega)
    have HX1 := leAt_succ x.bterm x.ents k
    have hds := HF.out _ (getD_mem x.ents k (by omega))
    unfold maxLen at hds
    have hdi : ((x.ents.getD k default).data.size : Int) ≤ 9223372036854775807 := by omega
    have HXX : Hid (entsAll x = (decide (leAt x.bterm x.ents k ≤ (x.ents.getD k default).term) && decide ((x.ents.getD k default).term ≤ x.term) && decide ((x.ents.getD k default).data.size ≤ 900) && leOk x.term (x.ents.getD k default).term (x.ents.drop (k + 1)))) := HR.out.trans HX
    have HXS : Hid (leAt x.bterm x.ents (k + 1) = (x.ents.getD k default).term) := HX1
    have HBF : Hid (Below w.heap.size w (wr.alloc (.cells #[.int .i64 (x.ents.getD k default).term, .string (x.ents.getD k default).data] 71))) := (B0.out.trans (HB1.out.mono B0.out.size)).alloc (Nat.le_trans B0.out.size HB1.out.size) _
    have HBG : Hid (Below W.heap.size W (wr.alloc (.cells #[.int .i64 (x.ents.getD k default).term, .string (x.ents.getD k default).data] 71))) := HB1.out.alloc HB1.out.size _
    clear HX HX1 HR hds
    generalize leAt x.bterm x.ents k = la at *
    generalize x.ents.getD k default = y at *
    obtain ⟨yt, yd⟩ := y
    simp only at hc0 hc1 HXX HXS HBF HBG hdi
    have hw0 : w.heap.size < wr.heap.size := Nat.lt_of_lt_of_le K0.out.lt hsz
    have hgr : g < wr.heap.size := Nat.lt_of_lt_of_le hgw hsz
    by_cases h8 : la ≤ yt
    rotate_left
    ·rw [decide_eq_false h8] at HXX
     have h8' : yt < la := by omega
     clear h8
     have HXX : Hid (entsAll x = false) := by unfold Hid; rw [HXX.out]; simp
     go_wp2_with fail
     go_ret
     exact ⟨by rw [HXX.out]; rfl, HBF.out⟩
    rw [decide_eq_true h8] at HXX
    by_cases h9 : yt ≤ x.term
    rotate_left
    ·rw [decide_eq_false h9] at HXX
     have h9' : x.term < yt := by omega
     clear h9
     have HXX : Hid (entsAll x = false) := by unfold Hid; rw [HXX.out]; simp
     go_wp2_with fail
     go_ret
     exact ⟨by rw [HXX.out]; rfl, HBF.out⟩
    rw [decide_eq_true h9] at HXX
    by_cases hz : (yd.size : Int) ≤ 900
    rotate_left
    ·rw [decide_eq_false (show ¬ yd.size ≤ 900 by omega)] at HXX
     have hz' : 900 < (yd.size : Int) := by omega
     clear hz
     have HXX : Hid (entsAll x = false) := by unfold Hid; rw [HXX.out]; simp
     go_wp2_with fail
     go_ret
     exact ⟨by rw [HXX.out]; rfl, HBF.out⟩
    rw [decide_eq_true (show yd.size ≤ 900 by omega)] at HXX
    have HXX : Hid (entsAll x = leOk x.term yt (x.ents.drop (k + 1))) := by unfold Hid; rw [HXX.out]; simp
    go_wp2_with fail
    go_roundw
    case rel => exact ⟨k + 1, by omega, by go_num, by rw [HXS.out], by rw [HXS.out]; exact HXX, HBG.out⟩
    case measure => simp [intOf]; omega
   ·obtain rfl : k = n := by omega
    have HXX : Hid (entsAll x = true) := by
     unfold Hid
     rw [HR.out, ← hN, List.drop_length]
     rfl
    clear HR
    generalize leAt x.bterm x.ents k = la at *
    go_wp2_with fail
    go_ret
    exact ⟨by rw [HXX.out]; rfl, B0.out.trans (HB1.out.mono B0.out.size)⟩
theorem below_alloc3' (w : World) (a b c : Obj) : Below w.heap.size w (((w.alloc a).alloc b).alloc c) := (((Below.refl _ w).alloc (Nat.le_refl _) a).alloc (by simp) b).alloc (by simp; omega) c
theorem recOk_hard (t v : Int) : recOk ⟨1, t, 0, v, ⟨#[]⟩⟩ = (inIt t 0 100000 && inIt v (-1) 4) := by
 show (inIt t 0 100000 && inIt v (-1) 4 && decide ((0 : Int) = 0) && decide ((⟨#[]⟩ : ByteArray) = ByteArray.empty)) = _
 rw [decide_eq_true (show (0 : Int) = 0 from rfl), decide_eq_true (show (⟨#[]⟩ : ByteArray) = ByteArray.empty from rfl), Bool.and_true, Bool.and_true]
theorem recOk_base (i t : Int) : recOk ⟨4, t, i, 0, ⟨#[]⟩⟩ = based i t := by
 show (based i t && decide ((0 : Int) = 0) && decide ((⟨#[]⟩ : ByteArray) = ByteArray.empty)) = _
 rw [decide_eq_true (show (0 : Int) = 0 from rfl), decide_eq_true (show (⟨#[]⟩ : ByteArray) = ByteArray.empty from rfl), Bool.and_true, Bool.and_true]
set_option maxHeartbeats 2000000 in
theorem implWalOk (x : Wl) (v : Value) (w : World) (B : Nat) (hv : WalV w B v x) (hf : FitsW x) (hB : B ≤ w.heap.size) : Calls Try.prog 69 #[v] w fun e w' => e = .returned (.bool (walOk x)) ∧ Below w.heap.size w w' := by
 obtain ⟨u, rfl, hl⟩ := hv
 have HL : Hid (Lies w B 2 u (entR x.ents)) := hl
 have HF : Hid (FitsW x) := hf
 have HB : Hid (B ≤ w.heap.size) := hB
 have HE : Hid (walOk x = ((inIt x.term 0 100000 && inIt x.vote (-1) 4) && based x.base x.bterm && decide (x.bterm ≤ x.term) && entsAll x)) := by
  unfold Hid walOk entsAll
  simp only [Bool.and_assoc]
 have a1 := fun wx => implRecOk ⟨1, x.term, 0, x.vote, ⟨#[]⟩⟩ wx (by show (0 : Nat) ≤ _; exact Nat.zero_le _)
 have a2 := fun wx => implRecOk ⟨4, x.bterm, x.base, 0, ⟨#[]⟩⟩ wx (by show (0 : Nat) ≤ _; exact Nat.zero_le _)
 rw [recOk_hard] at a1
 rw [recOk_base] at a2
 unfold vRcd at a1 a2
 simp only at a1 a2
 clear hl hf hB
 cases h1 : (inIt x.term 0 100000 && inIt x.vote (-1) 4) <;> rw [h1] at a1 HE
 ·clear h1
  go_enter Try.func69, Try.ntmps69
  go_wp2_with fail
  have B0 := below_alloc3' w (.cells #[.int .i64 x.term, .int .i64 x.vote, .int .i64 x.base, .int .i64 x.bterm, u] 68) (.cells #[.int .i64 1, .int .i64 x.term, .int .i64 0, .int .i64 x.vote, .string ⟨#[]⟩] 93) (.cells #[.int .i64 4, .int .i64 x.bterm, .int .i64 x.base, .int .i64 0, .string ⟨#[]⟩] 93)
  have k0 := ((Blk.new w #[.int .i64 x.term, .int .i64 x.vote, .int .i64 x.base, .int .i64 x.bterm, u] 68).alloc (.cells #[.int .i64 1, .int .i64 x.term, .int .i64 0, .int .i64 x.vote, .string ⟨#[]⟩] 93)).alloc (.cells #[.int .i64 4, .int .i64 x.bterm, .int .i64 x.base, .int .i64 0, .string ⟨#[]⟩] 93)
  have k2 := Blk.new ((w.alloc (.cells #[.int .i64 x.term, .int .i64 x.vote, .int .i64 x.base, .int .i64 x.bterm, u] 68)).alloc (.cells #[.int .i64 1, .int .i64 x.term, .int .i64 0, .int .i64 x.vote, .string ⟨#[]⟩] 93)) #[.int .i64 4, .int .i64 x.bterm, .int .i64 x.base, .int .i64 0, .string ⟨#[]⟩] 93
  simp only [World.size_alloc] at k2
  generalize ((w.alloc (.cells #[.int .i64 x.term, .int .i64 x.vote, .int .i64 x.base, .int .i64 x.bterm, u] 68)).alloc (.cells #[.int .i64 1, .int .i64 x.term, .int .i64 0, .int .i64 x.vote, .string ⟨#[]⟩] 93)).alloc (.cells #[.int .i64 4, .int .i64 x.bterm, .int .i64 x.base, .int .i64 0, .string ⟨#[]⟩] 93) = W at *
  refine (a1 W).mono ?_
  rintro e w1 ⟨rfl, hb1⟩
  have B1 : Hid (Below w.heap.size w w1) := B0.trans (hb1.mono B0.size)
  clear B0 hb1 k0 k2
  go_wp2_with fail
  go_ret
  exact ⟨by rw [HE.out]; rfl, B1.out⟩
 clear h1
 cases h3 : based x.base x.bterm <;> rw [h3] at a2 HE
 ·clear h3
  go_enter Try.func69, Try.ntmps69
  go_wp2_with fail
  have B0 := below_alloc3' w (.cells #[.int .i64 x.term, .int .i64 x.vote, .int .i64 x.base, .int .i64 x.bterm, u] 68) (.cells #[.int .i64 1, .int .i64 x.term, .int .i64 0, .int .i64 x.vote, .string ⟨#[]⟩] 93) (.cells #[.int .i64 4, .int .i64 x.bterm, .int .i64 x.base, .int .i64 0, .string ⟨#[]⟩] 93)
  have k0 := ((Blk.new w #[.int .i64 x.term, .int .i64 x.vote, .int .i64 x.base, .int .i64 x.bterm, u] 68).alloc (.cells #[.int .i64 1, .int .i64 x.term, .int .i64 0, .int .i64 x.vote, .string ⟨#[]⟩] 93)).alloc (.cells #[.int .i64 4, .int .i64 x.bterm, .int .i64 x.base, .int .i64 0, .string ⟨#[]⟩] 93)
  have k2 := Blk.new ((w.alloc (.cells #[.int .i64 x.term, .int .i64 x.vote, .int .i64 x.base, .int .i64 x.bterm, u] 68)).alloc (.cells #[.int .i64 1, .int .i64 x.term, .int .i64 0, .int .i64 x.vote, .string ⟨#[]⟩] 93)) #[.int .i64 4, .int .i64 x.bterm, .int .i64 x.base, .int .i64 0, .string ⟨#[]⟩] 93
  simp only [World.size_alloc] at k2
  generalize ((w.alloc (.cells #[.int .i64 x.term, .int .i64 x.vote, .int .i64 x.base, .int .i64 x.bterm, u] 68)).alloc (.cells #[.int .i64 1, .int .i64 x.term, .int .i64 0, .int .i64 x.vote, .string ⟨#[]⟩] 93)).alloc (.cells #[.int .i64 4, .int .i64 x.bterm, .int .i64 x.base, .int .i64 0, .string ⟨#[]⟩] 93) = W at *
  refine (a1 W).mono ?_
  rintro e w1 ⟨rfl, hb1⟩
  have B1 : Hid (Below w.heap.size w w1) := B0.trans (hb1.mono B0.size)
  have K1 : Hid (Blk w1 w.heap.size #[.int .i64 x.term, .int .i64 x.vote, .int .i64 x.base, .int .i64 x.bterm, u] 68) := k0.on hb1 k0.lt
  have l2 := k2.on hb1 k2.lt
  have e0 := l2.cell 0 (.int .i64 4) rfl
  have e1 := l2.cell 1 (.int .i64 x.bterm) rfl
  have e2 := l2.cell 2 (.int .i64 x.base) rfl
  have e3 := l2.cell 3 (.int .i64 0) rfl
  have e4 := l2.cell 4 (.string ⟨#[]⟩) rfl
  clear B0 hb1 k0 k2 l2
  go_wp2_with fail
  refine (a2 w1).mono ?_
  rintro e w2 ⟨rfl, hb2⟩
  have B2 : Hid (Below w.heap.size w w2) := B1.out.trans (hb2.mono B1.out.size)
  have k2 := K1.out.on hb2 K1.out.lt
  clear e0 e1 e2 e3 e4 hb2
  have e0 := k2.cell 0 (.int .i64 x.term) rfl
  have e1 := k2.cell 1 (.int .i64 x.vote) rfl
  have e2 := k2.cell 2 (.int .i64 x.base) rfl
  have e3 := k2.cell 3 (.int .i64 x.bterm) rfl
  have e4 := k2.cell 4 (u) rfl
  clear k2
  go_wp2_with fail
  go_ret
  exact ⟨by rw [HE.out]; rfl, B2.out⟩
 obtain ⟨⟨b1, b2⟩, _⟩ := based_in _ _ h3
 clear h3
 by_cases h4 : x.bterm ≤ x.term
 rotate_left
 ·rw [decide_eq_false h4] at HE
  have h4' : x.term < x.bterm := by omega
  have z4 : decide (x.bterm ≤ x.term) = false := decide_eq_false h4
  clear h4
  go_enter Try.func69, Try.ntmps69
  go_wp2_with fail
  have B0 := below_alloc3' w (.cells #[.int .i64 x.term, .int .i64 x.vote, .int .i64 x.base, .int .i64 x.bterm, u] 68) (.cells #[.int .i64 1, .int .i64 x.term, .int .i64 0, .int .i64 x.vote, .string ⟨#[]⟩] 93) (.cells #[.int .i64 4, .int .i64 x.bterm, .int .i64 x.base, .int .i64 0, .string ⟨#[]⟩] 93)
  have k0 := ((Blk.new w #[.int .i64 x.term, .int .i64 x.vote, .int .i64 x.base, .int .i64 x.bterm, u] 68).alloc (.cells #[.int .i64 1, .int .i64 x.term, .int .i64 0, .int .i64 x.vote, .string ⟨#[]⟩] 93)).alloc (.cells #[.int .i64 4, .int .i64 x.bterm, .int .i64 x.base, .int .i64 0, .string ⟨#[]⟩] 93)
  have k2 := Blk.new ((w.alloc (.cells #[.int .i64 x.term, .int .i64 x.vote, .int .i64 x.base, .int .i64 x.bterm, u] 68)).alloc (.cells #[.int .i64 1, .int .i64 x.term, .int .i64 0, .int .i64 x.vote, .string ⟨#[]⟩] 93)) #[.int .i64 4, .int .i64 x.bterm, .int .i64 x.base, .int .i64 0, .string ⟨#[]⟩] 93
  simp only [World.size_alloc] at k2
  generalize ((w.alloc (.cells #[.int .i64 x.term, .int .i64 x.vote, .int .i64 x.base, .int .i64 x.bterm, u] 68)).alloc (.cells #[.int .i64 1, .int .i64 x.term, .int .i64 0, .int .i64 x.vote, .string ⟨#[]⟩] 93)).alloc (.cells #[.int .i64 4, .int .i64 x.bterm, .int .i64 x.base, .int .i64 0, .string ⟨#[]⟩] 93) = W at *
  refine (a1 W).mono ?_
  rintro e w1 ⟨rfl, hb1⟩
  have B1 : Hid (Below w.heap.size w w1) := B0.trans (hb1.mono B0.size)
  have K1 : Hid (Blk w1 w.heap.size #[.int .i64 x.term, .int .i64 x.vote, .int .i64 x.base, .int .i64 x.bterm, u] 68) := k0.on hb1 k0.lt
  have l2 := k2.on hb1 k2.lt
  have e0 := l2.cell 0 (.int .i64 4) rfl
  have e1 := l2.cell 1 (.int .i64 x.bterm) rfl
  have e2 := l2.cell 2 (.int .i64 x.base) rfl
  have e3 := l2.cell 3 (.int .i64 0) rfl
  have e4 := l2.cell 4 (.string ⟨#[]⟩) rfl
  clear B0 hb1 k0 k2 l2
  go_wp2_with fail
  refine (a2 w1).mono ?_
  rintro e w2 ⟨rfl, hb2⟩
  have B2 : Hid (Below w.heap.size w w2) := B1.out.trans (hb2.mono B1.out.size)
  have k2 := K1.out.on hb2 K1.out.lt
  clear e0 e1 e2 e3 e4 hb2
  have e0 := k2.cell 0 (.int .i64 x.term) rfl
  have e1 := k2.cell 1 (.int .i64 x.vote) rfl
  have e2 := k2.cell 2 (.int .i64 x.base) rfl
  have e3 := k2.cell 3 (.int .i64 x.bterm) rfl
  have e4 := k2.cell 4 (u) rfl
  clear k2
  go_wp2_with fail
  go_ret
  exact ⟨by rw [HE.out]; rfl, B2.out⟩
 rw [decide_eq_true h4] at HE
 go_enter Try.func69, Try.ntmps69
 go_wp2_with fail
 have B0 := below_alloc3' w (.cells #[.int .i64 x.term, .int .i64 x.vote, .int .i64 x.base, .int .i64 x.bterm, u] 68) (.cells #[.int .i64 1, .int .i64 x.term, .int .i64 0, .int .i64 x.vote, .string ⟨#[]⟩] 93) (.cells #[.int .i64 4, .int .i64 x.bterm, .int .i64 x.base, .int .i64 0, .string ⟨#[]⟩] 93)
 have k0 := ((Blk.new w #[.int .i64 x.term, .int .i64 x.vote, .int .i64 x.base, .int .i64 x.bterm, u] 68).alloc (.cells #[.int .i64 1, .int .i64 x.term, .int .i64 0, .int .i64 x.vote, .string ⟨#[]⟩] 93)).alloc (.cells #[.int .i64 4, .int .i64 x.bterm, .int .i64 x.base, .int .i64 0, .string ⟨#[]⟩] 93)
 have k2 := Blk.new ((w.alloc (.cells #[.int .i64 x.term, .int .i64 x.vote, .int .i64 x.base, .int .i64 x.bterm, u] 68)).alloc (.cells #[.int .i64 1, .int .i64 x.term, .int .i64 0, .int .i64 x.vote, .string ⟨#[]⟩] 93)) #[.int .i64 4, .int .i64 x.bterm, .int .i64 x.base, .int .i64 0, .string ⟨#[]⟩] 93
 simp only [World.size_alloc] at k2
 generalize ((w.alloc (.cells #[.int .i64 x.term, .int .i64 x.vote, .int .i64 x.base, .int .i64 x.bterm, u] 68)).alloc (.cells #[.int .i64 1, .int .i64 x.term, .int .i64 0, .int .i64 x.vote, .string ⟨#[]⟩] 93)).alloc (.cells #[.int .i64 4, .int .i64 x.bterm, .int .i64 x.base, .int .i64 0, .string ⟨#[]⟩] 93) = W at *
 refine (a1 W).mono ?_
 rintro e w1 ⟨rfl, hb1⟩
 have B1 : Hid (Below w.heap.size w w1) := B0.trans (hb1.mono B0.size)
 have K1 : Hid (Blk w1 w.heap.size #[.int .i64 x.term, .int .i64 x.vote, .int .i64 x.base, .int .i64 x.bterm, u] 68) := k0.on hb1 k0.lt
 have l2 := k2.on hb1 k2.lt
 have e0 := l2.cell 0 (.int .i64 4) rfl
 have e1 := l2.cell 1 (.int .i64 x.bterm) rfl
 have e2 := l2.cell 2 (.int .i64 x.base) rfl
 have e3 := l2.cell 3 (.int .i64 0) rfl
 have e4 := l2.cell 4 (.string ⟨#[]⟩) rfl
 clear B0 hb1 k0 k2 l2
 go_wp2_with fail
 refine (a2 w1).mono ?_
 rintro e w2 ⟨rfl, hb2⟩
 have B2 : Hid (Below w.heap.size w w2) := B1.out.trans (hb2.mono B1.out.size)
 have k2 := K1.out.on hb2 K1.out.lt
 clear e0 e1 e2 e3 e4 hb2
 have e0 := k2.cell 0 (.int .i64 x.term) rfl
 have e1 := k2.cell 1 (.int .i64 x.vote) rfl
 have e2 := k2.cell 2 (.int .i64 x.base) rfl
 have e3 := k2.cell 3 (.int .i64 x.bterm) rfl
 have e4 := k2.cell 4 (u) rfl
 clear k2
 go_wp2_with fail
 refine (entriesOkV x (.agg #[.int .i64 x.term, .int .i64 x.vote, .int .i64 x.base, .int .i64 x.bterm, u]) w2 B ⟨u, rfl, HL.out.on (B2.out.mono HB.out)⟩ HF.out (Nat.le_trans HB.out B2.out.size) b1 b2).mono ?_
 rintro e w3 ⟨rfl, hb3⟩
 have B3 : Hid (Below w.heap.size w w3) := B2.out.trans (hb3.mono B2.out.size)
 clear hb3
 have HE : Hid (walOk x = entsAll x) := by unfold Hid; rw [HE.out]; simp
 generalize entsAll x = z at *
 go_wp2_with fail
 go_ret
 exact ⟨by rw [HE.out]; first | rfl | simp, B3.out⟩
end Go.Proofs.Ytlhoonohpfpkbaa
namespace Go.Proofs.Ytlhoonohpfpkbaa
open Go.ChangeShapes Go.WideShapes Go.ChangeAt Go.RowKit Go.PlainAid
set_option linter.unusedVariables false
theorem cellsC13 {w : World} {g : Nat} {a0 a1 a2 a3 a4 a5 a6 a7 a8 a9 a10 a11 a12 : Value} {t : TypeId} (h : Blk w g #[a0, a1, a2, a3, a4, a5, a6, a7, a8, a9, a10, a11, a12] t) : w.cell? ⟨g, 0, none⟩ = some a0 ∧ w.cell? ⟨g, 1, none⟩ = some a1 ∧ w.cell? ⟨g, 2, none⟩ = some a2 ∧ w.cell? ⟨g, 3, none⟩ = some a3 ∧ w.cell? ⟨g, 4, none⟩ = some a4 ∧ w.cell? ⟨g, 5, none⟩ = some a5 ∧ w.cell? ⟨g, 6, none⟩ = some a6 ∧ w.cell? ⟨g, 7, none⟩ = some a7 ∧ w.cell? ⟨g, 8, none⟩ = some a8 ∧ w.cell? ⟨g, 9, none⟩ = some a9 ∧ w.cell? ⟨g, 10, none⟩ = some a10 ∧ w.cell? ⟨g, 11, none⟩ = some a11 ∧ w.cell? ⟨g, 12, none⟩ = some a12 := ⟨h.cell 0 _ rfl, h.cell 1 _ rfl, h.cell 2 _ rfl, h.cell 3 _ rfl, h.cell 4 _ rfl, h.cell 5 _ rfl, h.cell 6 _ rfl, h.cell 7 _ rfl, h.cell 8 _ rfl, h.cell 9 _ rfl, h.cell 10 _ rfl, h.cell 11 _ rfl, h.cell 12 _ rfl⟩
set_option maxHeartbeats 400000 in
theorem inW (x lo hi : Int) (w : World) : Calls Try.prog 68 #[.int .i64 x, .int .i64 lo, .int .i64 hi] w fun e w' => e = .returned (.bool (inIt x lo hi)) ∧ w = w' := by
 by_cases h1 : lo ≤ x
 ·go_enter Try.func68, Try.ntmps68
  go_wp2
  go_ret
  exact ⟨by simp [inIt, h1], rfl⟩
 ·have z : decide (lo ≤ x) = false := decide_eq_false h1
  have z2 : x < lo := by omega
  go_enter Try.func68, Try.ntmps68
  go_wp2
  go_ret
  exact ⟨by unfold inIt; rw [z]; rfl, rfl⟩
set_option maxHeartbeats 1000000 in
theorem lastI (ci cp ct cv cr cd cb cbt : Int) (cc : Int) (A0 : Option Addr) (n0 c0 : Nat) (u1 u2 u3 : Value) (w : World) (h0 : 0 ≤ cb) (h1 : cb ≤ 200000) (hn : n0 ≤ 1048576) : Calls Try.prog 57 #[.agg #[.int .i64 ci, .int .i64 cp, .int .i64 ct, .int .i64 cv, .int .i64 cr, .int .i64 cd, .int .i64 cb, .int .i64 cbt, .slice A0 n0 c0, .int .i64 cc, u1, u2, u3]] w fun e w' => e = .returned (.int .i64 (cb + (n0 : Int))) ∧ Below w.heap.size w w' := by
 have w1 : IntKind.i64.wrap (cb + (n0 : Int)) = cb + (n0 : Int) := by rw [IntKind.wrap_i64]; omega
 have q : (n0 : Int) ≤ 1048576 := by omega
 go_enter Try.func57, Try.ntmps57
 go_wp2
 go_ret
 exact ⟨rfl, (Below.refl _ _).alloc (Nat.le_refl _) _⟩
set_option maxHeartbeats 1000000 in
theorem walI (ci cp ct cv cr cd cb cbt : Int) (cc : Int) (A0 : Option Addr) (n0 c0 : Nat) (u1 u2 u3 : Value) (w : World) : Calls Try.prog 70 #[.agg #[.int .i64 ci, .int .i64 cp, .int .i64 ct, .int .i64 cv, .int .i64 cr, .int .i64 cd, .int .i64 cb, .int .i64 cbt, .slice A0 n0 c0, .int .i64 cc, u1, u2, u3]] w fun e w' => e = .returned (.agg #[.int .i64 ct, .int .i64 cv, .int .i64 cb, .int .i64 cbt, .slice A0 n0 c0]) ∧ Below w.heap.size w w' := by
 have HB : ∀ a b, Hid (Below w.heap.size w ((w.alloc a).alloc b)) := fun a b => ((Below.refl _ _).alloc (Nat.le_refl _) _).alloc (by simp) _
 go_enter Try.func70, Try.ntmps70
 go_wp2_with fail
 exact bodyPost_ret (v := .agg #[.int .i64 ct, .int .i64 cv, .int .i64 cb, .int .i64 cbt, .slice A0 n0 c0]) (by simp [results, go_sem]) rfl ⟨rfl, (HB _ _).out⟩
set_option maxHeartbeats 1000000 in
theorem majI (ci cp ct cv cr cd cb cbt : Int) (cc : Int) (m : Int) (u0 u1 u2 u3 : Value) (w : World) (h0 : 0 ≤ m) (h1 : m ≤ 1048576) : Calls Try.prog 55 #[.agg #[.int .i64 ci, .int .i64 cp, .int .i64 ct, .int .i64 cv, .int .i64 cr, .int .i64 cd, .int .i64 cb, .int .i64 cbt, u0, .int .i64 cc, u1, u2, u3], .int .i64 m] w fun e w' => e = .returned (.bool (decide (cp < 2 * m))) ∧ Below w.heap.size w w' := by
 have w1 : IntKind.i64.wrap (2 * m) = 2 * m := by rw [IntKind.wrap_i64]; omega
 go_enter Try.func55, Try.ntmps55
 go_wp2
 go_ret
 exact ⟨rfl, (Below.refl _ _).alloc (Nat.le_refl _) _⟩
set_option maxHeartbeats 2000000 in
theorem indexI (l : List Int) (v : Value) (x : Int) (w : World) (B : Nat) (hv : NumsV w B v l) (hn : l.length ≤ 1048576) : Calls Try.prog 93 #[v, .int .i64 x] w fun e w' => (∃ r : Int, e = .returned (.int .i64 r) ∧ Hid ((0 ≤ r ∧ x ∈ l) ∨ (r = -1 ∧ x ∉ l))) ∧ w = w' := by
 obtain ⟨A, cap, rfl, _, _, hc⟩ := hv
 have HC : Hid (∀ j, j < l.length → ∃ g off, A = some ⟨g, off, none⟩ ∧ g < B ∧ w.cell? ⟨g, off + j, none⟩ = some (.int .i64 (l.getD j 0))) := hc
 have HMem : Hid (∀ j, j < l.length → l.getD j 0 ∈ l) := fun j hj => by rw [List.getD_eq_getElem?_getD, List.getElem?_eq_getElem hj]; exact List.getElem_mem hj
 have HAll : Hid ((∀ j, j < l.length → l.getD j 0 ≠ x) → x ∉ l) := fun h hm => by
  obtain ⟨j, hj, e⟩ := List.getElem_of_mem hm
  exact h j hj (by rw [List.getD_eq_getElem?_getD, List.getElem?_eq_getElem hj]; exact e)
 have q1 : (l.length : Int) ≤ 1048576 := by omega
 clear hc
 generalize hN : l.length = n at *
 clear hN
 go_enter Try.func93, Try.ntmps93
 go_wp2_with fail
 go_loopw [5, 8] (fun v5 v8 wr => ∃ k : Nat, k ≤ n ∧ v8 = .int .i64 (k : Int) ∧ w = wr ∧ Hid (∀ j, j < k → l.getD j 0 ≠ x)) (fun _ v _ => n - (intOf v).toNat)
 case atStart => exact ⟨0, by omega, rfl, rfl, fun j hj => by omega⟩
 case round =>
  obtain ⟨k, hk, rfl, rfl, HR⟩ := hrel
  by_cases hlt : k < n
  ·have q2 : (k : Int) < (n : Int) := by omega
   obtain ⟨g, off, rfl, hg, d0⟩ := HC.out k hlt
   have HM : Hid (l.getD k 0 ∈ l) := HMem.out k hlt
   have HNx : Hid (∀ j, j < k + 1 → j = k ∨ l.getD j 0 ≠ x) := fun j hj => by
    by_cases h : j = k
    ·exact .inl h
    ·exact .inr (HR.out j (by omega))
   have HGk : Hid (∀ y : Int, l.getD k 0 = y → y ≠ x → l.getD k 0 ≠ x) := fun y h1 h2 => by rw [h1]; exact h2
   generalize hy : l.getD k 0 = y at *
   by_cases he : x = y
   ·subst he
    go_wp2_with fail
    go_ret
    exact ⟨⟨_, rfl, .inl ⟨by omega, HM.out⟩⟩, rfl⟩
   ·have e1 : (x == y) = false := beq_eq_false_iff_ne.2 he
    have HNy : Hid (¬ y = x) := fun h => he h.symm
    have HY : Hid (l.getD k 0 = y) := hy
    clear hy he
    go_wp2_with fail
    go_roundw
    case rel => exact ⟨k + 1, by omega, by go_num, by trivial, fun j hj => (HNx.out j hj).elim (fun h => by rw [h, HY.out]; exact HNy.out) id⟩
    case measure => simp [intOf]; omega
  ·obtain rfl : k = n := by omega
   have HF : Hid (x ∉ l) := HAll.out HR.out
   go_wp2_with fail
   go_ret
   exact ⟨⟨_, rfl, .inr ⟨rfl, HF.out⟩⟩, rfl⟩
set_option maxHeartbeats 1000000 in
theorem hasI (l : List Int) (v : Value) (x : Int) (w : World) (B : Nat) (hv : NumsV w B v l) (hn : l.length ≤ 1048576) : Calls Try.prog 88 #[v, .int .i64 x] w fun e w' => e = .returned (.bool (decide (x ∈ l))) ∧ w = w' := by
 have c := indexI l v x w B hv hn
 obtain ⟨A, cap, rfl, _⟩ := hv
 go_enter Try.func88, Try.ntmps88
 go_wp2_with fail
 refine c.mono ?_
 rintro e w' ⟨⟨r, rfl, HR⟩, rfl⟩
 rcases HR.out with ⟨h1, h2⟩ | ⟨rfl, h2⟩
 ·have e1 : decide (0 ≤ r) = true := decide_eq_true h1
  have HM : Hid (x ∈ l) := h2
  clear h2
  go_wp2_with fail
  go_ret
  exact ⟨by rw [decide_eq_true HM.out]; rfl, rfl⟩
 ·have HM : Hid (x ∉ l) := h2
  clear h2
  go_wp2_with fail
  go_ret
  exact ⟨by rw [decide_eq_false HM.out]; rfl, rfl⟩
end Go.Proofs.Ytlhoonohpfpkbaa
namespace Go.Proofs.Ytlhoonohpfpkbaa
open Go.ChangeShapes Go.WideShapes Go.ChangeAt Go.RowKit Go.PlainAid
set_option linter.unusedVariables false
theorem elem_entC : Try.prog.elem 27 = 71 := by kernel_rfl
theorem size_entC : (Try.prog.info? 71).map (·.size) = some 2 := by kernel_rfl
theorem cut_run (A : Option Addr) (n c k : Nat) (hk : k ≤ n) (hc : n ≤ c) (wx : World) : (Instr.sliceAt 27 (.slice A n c) (some (.int .i64 (k : Int))) none none).run Try.prog wx = .ok (.slice (if c = k then A else A.map (·.add (k * 2))) (n - k) (c - k)) wx := by
 have hu : Try.prog.underlying 27 = some (.slice (Try.prog.elem 27)) := by rw [elem_entC]; exact Try.underlying27
 have hz := size_entC
 cases hq : Try.prog.info? 71 with
 | none => rw [hq] at hz; simp at hz
 | some i =>
  rw [hq] at hz
  have hi : i.size = 2 := by simpa using hz
  rw [run_sliceAt_slice wx 27 _ _ _ _ hu, run_slice_l wx 27 A n c hu .i64 (k : Int) (by omega) (by omega), elem_entC]
  simp [sizeOf, typeInfo, hq, hi, sliced]
theorem OwnF.cut {w : World} {base n c : Nat} {A : Option Addr} {R : List (List Value)} (h : OwnF w base (.slice A n c) R) (k : Nat) (hk : k ≤ R.length) : ∃ A' m' c', (∀ wx, (Instr.sliceAt 27 (.slice A n c) (some (.int .i64 (k : Int))) none none).run Try.prog wx = .ok (.slice A' m' c') wx) ∧ OwnF w base (.slice A' m' c') (R.drop k) ∧ (∀ g, blkF (.slice A' m' c') = some g → blkF (.slice A n c) = some g) := by
 rcases h with ⟨rfl, A1, c1, e, hA⟩ | ⟨h0, g, n0, c0, d, c1, R0, h1, h2, h3, e, h5, h6⟩
 ·cases e
  have hk0 : k = 0 := by simpa using hk
  subst hk0
  refine ⟨_, _, _, fun wx => cut_run A 0 c 0 (Nat.le_refl _) (Nat.zero_le _) wx, .inl ⟨by simp, _, _, rfl, fun e => ?_⟩, fun g hg => ?_⟩
  ·split at e
   ·rw [hA e]
   ·cases A with
    | none => rw [hA rfl]
    | some a => cases e
  ·split at hg
   ·cases A <;> cases hg
   ·cases A <;> cases hg
 ·cases e
  have hb1 : ∀ g', blkF (.slice (some ⟨g, d * 2, none⟩) R.length c) = some g' ↔ g = g' := fun g' => by
   obtain ⟨q, hq⟩ : ∃ q, R.length = q + 1 := ⟨R.length - 1, by omega⟩
   rw [hq]
   exact ⟨fun h => by cases h; rfl, fun h => by subst h; rfl⟩
  refine ⟨_, _, _, fun wx => cut_run _ _ _ k hk h5 wx, ?_, fun g' hg => ?_⟩
  ·by_cases hkn : k = R.length
   ·left
    refine ⟨by rw [hkn, List.drop_length], _, _, by rw [hkn, Nat.sub_self], fun e => ?_⟩
    split at e
    ·cases e
    ·cases e
   ·right
    have hne : c ≠ k := by omega
    have hl : (R.drop k).length = R.length - k := List.length_drop
    refine ⟨by omega, g, n0, c0, d + k, c - k, R0, h1, h2, by omega, ?_, by omega, ?_⟩
    ·rw [if_neg hne, hl]
     simp [Addr.add]
     cases k with
     | zero => simp
     | succ k => simp [Nat.add_mul]
    ·rw [h6, List.drop_drop]
  ·rw [hb1]
   have := blkF_own hg
   split at this
   ·simpa [Value.ownBlock] using this
   ·simp [Value.ownBlock, Addr.add] at this
    cases k with
    | zero => simpa using this
    | succ k => simpa using this
theorem termAt_at (x : Cor) (i : Int) (j : Nat) (h : ¬ i = x.base) (hj : i - x.base - 1 = (j : Int)) : termAt x i = (x.log.getD j default).term := by
 unfold termAt
 rw [if_neg h, hj]
 rfl
set_option maxHeartbeats 2000000 in
theorem termI (ci cp ct cv cr cd cb cbt : Int) (lg : List Ent) (cc : Int) (ys ns ms : List Int) (A0 : Option Addr) (n0 c0 : Nat) (u1 u2 u3 : Value) (i : Int) (w : World) (B : Nat) (hl : Lies w B 2 (.slice A0 n0 c0) (entR lg)) (hn : lg.length ≤ 1048576) (h0 : 0 ≤ cb) (h1 : cb ≤ 200000) (hi0 : cb ≤ i) (hi1 : i ≤ cb + (lg.length : Int)) (hB : B ≤ w.heap.size) : Calls Try.prog 60 #[.agg #[.int .i64 ci, .int .i64 cp, .int .i64 ct, .int .i64 cv, .int .i64 cr, .int .i64 cd, .int .i64 cb, .int .i64 cbt, .slice A0 n0 c0, .int .i64 cc, u1, u2, u3], .int .i64 i] w fun e w' => e = .returned (.int .i64 (termAt ⟨ci, cp, ct, cv, cr, cd, cb, cbt, lg, cc, ys, ns, ms⟩ i)) ∧ Below w.heap.size w w' := by
 have HB : Hid (B ≤ w.heap.size) := hB
 obtain ⟨A, cap, e, hlk⟩ := ent_look hl
 cases e
 have HL := Hid.mk hlk
 have BX : Hid (Below w.heap.size w (w.alloc (.cells #[.int .i64 ci, .int .i64 cp, .int .i64 ct, .int .i64 cv, .int .i64 cr, .int .i64 cd, .int .i64 cb, .int .i64 cbt, .slice A0 lg.length c0, .int .i64 cc, u1, u2, u3] 29))) := (Below.refl _ _).alloc (Nat.le_refl _) _
 clear hl hlk hB
 by_cases hib : i = cb
 ·have HE : Hid (termAt ⟨ci, cp, ct, cv, cr, cd, cb, cbt, lg, cc, ys, ns, ms⟩ i = cbt) := by unfold Hid termAt; exact if_pos hib
  have e1 : (i == cb) = true := beq_iff_eq.2 hib
  clear hib
  generalize lg.length = n at *
  go_enter Try.func60, Try.ntmps60
  go_wp2_with fail
  go_ret
  exact ⟨by rw [HE.out]; rfl, BX.out⟩
 obtain ⟨j, hj⟩ : ∃ j : Nat, i - cb - 1 = (j : Int) := ⟨(i - cb - 1).toNat, by omega⟩
 have HE : Hid (termAt ⟨ci, cp, ct, cv, cr, cd, cb, cbt, lg, cc, ys, ns, ms⟩ i = (lg.getD j default).term) := termAt_at ⟨ci, cp, ct, cv, cr, cd, cb, cbt, lg, cc, ys, ns, ms⟩ i j hib hj
 have e1 : (i == cb) = false := beq_eq_false_iff_ne.2 hib
 have hjn : j < lg.length := by omega
 obtain ⟨g, off, rfl, hg, d0, _⟩ := HL.out j hjn
 rw [← BX.out.cell (p := ⟨_, _, none⟩) (Nat.lt_of_lt_of_le hg HB.out)] at d0
 have w1 : IntKind.i64.wrap (i - cb) = i - cb := by rw [IntKind.wrap_i64]; omega
 have w2 : IntKind.i64.wrap (i - cb - 1) = (j : Int) := by rw [IntKind.wrap_i64]; omega
 have q1 : (j : Int) < (lg.length : Int) := by omega
 have HN : Hid (lg.length ≤ 1048576) := hn
 generalize (lg.getD j default).term = tt at *
 generalize lg.length = n at *
 clear hib hj hjn HL
 go_enter Try.func60, Try.ntmps60
 go_wp2_with fail
 go_ret
 exact ⟨by rw [HE.out]; rfl, BX.out⟩
set_option maxHeartbeats 2000000 in
theorem termS (ci cp ct cv cr cd cb cbt : Int) (lg : List Ent) (cc : Int) (ys ns ms : List Int) (A0 : Option Addr) (n0 c0 : Nat) (u1 u2 u3 : Value) (i : Int) (w : World) (B : Nat) (hl : Lies w B 2 (.slice A0 n0 c0) (entR lg)) (hn : lg.length ≤ 1048576) (h0 : 0 ≤ cb) (h1 : cb ≤ 200000) (hi0 : cb ≤ i) (hi1 : i ≤ cb + (lg.length : Int)) (hB : B ≤ w.heap.size) : Calls Try.prog 26 #[.agg #[.int .i64 ci, .int .i64 cp, .int .i64 ct, .int .i64 cv, .int .i64 cr, .int .i64 cd, .int .i64 cb, .int .i64 cbt, .slice A0 n0 c0, .int .i64 cc, u1, u2, u3], .int .i64 i] w fun e w' => e = .returned (.int .i64 (termAt ⟨ci, cp, ct, cv, cr, cd, cb, cbt, lg, cc, ys, ns, ms⟩ i)) ∧ Below w.heap.size w w' := by
 have HB : Hid (B ≤ w.heap.size) := hB
 obtain ⟨A, cap, e, hlk⟩ := ent_look hl
 cases e
 have HL := Hid.mk hlk
 have BX : Hid (Below w.heap.size w (w.alloc (.cells #[.int .i64 ci, .int .i64 cp, .int .i64 ct, .int .i64 cv, .int .i64 cr, .int .i64 cd, .int .i64 cb, .int .i64 cbt, .slice A0 lg.length c0, .int .i64 cc, u1, u2, u3] 29))) := (Below.refl _ _).alloc (Nat.le_refl _) _
 clear hl hlk hB
 by_cases hib : i = cb
 ·have HE : Hid (termAt ⟨ci, cp, ct, cv, cr, cd, cb, cbt, lg, cc, ys, ns, ms⟩ i = cbt) := by unfold Hid termAt; exact if_pos hib
  have e1 : (i == cb) = true := beq_iff_eq.2 hib
  clear hib
  generalize lg.length = n at *
  go_enter Try.func26, Try.ntmps26
  go_wp2_with fail
  go_ret
  exact ⟨by rw [HE.out]; rfl, BX.out⟩
 obtain ⟨j, hj⟩ : ∃ j : Nat, i - cb - 1 = (j : Int) := ⟨(i - cb - 1).toNat, by omega⟩
 have HE : Hid (termAt ⟨ci, cp, ct, cv, cr, cd, cb, cbt, lg, cc, ys, ns, ms⟩ i = (lg.getD j default).term) := termAt_at ⟨ci, cp, ct, cv, cr, cd, cb, cbt, lg, cc, ys, ns, ms⟩ i j hib hj
 have e1 : (i == cb) = false := beq_eq_false_iff_ne.2 hib
 have hjn : j < lg.length := by omega
 obtain ⟨g, off, rfl, hg, d0, _⟩ := HL.out j hjn
 rw [← BX.out.cell (p := ⟨_, _, none⟩) (Nat.lt_of_lt_of_le hg HB.out)] at d0
 have w1 : IntKind.i64.wrap (i - cb) = i - cb := by rw [IntKind.wrap_i64]; omega
 have w2 : IntKind.i64.wrap (i - cb - 1) = (j : Int) := by rw [IntKind.wrap_i64]; omega
 have q1 : (j : Int) < (lg.length : Int) := by omega
 have HN : Hid (lg.length ≤ 1048576) := hn
 generalize (lg.getD j default).term = tt at *
 generalize lg.length = n at *
 clear hib hj hjn HL
 go_enter Try.func26, Try.ntmps26
 go_wp2_with fail
 go_ret
 exact ⟨by rw [HE.out]; rfl, BX.out⟩
set_option maxHeartbeats 2000000 in
theorem behindI (ci cp ct cv cr cd cb cbt : Int) (lg : List Ent) (cc : Int) (A0 : Option Addr) (n0 c0 : Nat) (u1 u2 u3 : Value) (i : Int) (k : Nat) (A' : Option Addr) (m' c' : Nat) (w : World) (hk : i - cb = (k : Int)) (hkn : k ≤ 1048576) (hr : ∀ wx, (Instr.sliceAt 27 (.slice A0 n0 c0) (some (.int .i64 (k : Int))) none none).run Try.prog wx = .ok (.slice A' m' c') wx) : Calls Try.prog 83 #[.agg #[.int .i64 ci, .int .i64 cp, .int .i64 ct, .int .i64 cv, .int .i64 cr, .int .i64 cd, .int .i64 cb, .int .i64 cbt, .slice A0 n0 c0, .int .i64 cc, u1, u2, u3], .int .i64 i] w fun e w' => e = .returned (.slice A' m' c') ∧ Below w.heap.size w w' := by
 have BX : Hid (Below w.heap.size w (w.alloc (.cells #[.int .i64 ci, .int .i64 cp, .int .i64 ct, .int .i64 cv, .int .i64 cr, .int .i64 cd, .int .i64 cb, .int .i64 cbt, .slice A0 n0 c0, .int .i64 cc, u1, u2, u3] 29))) := (Below.refl _ _).alloc (Nat.le_refl _) _
 have w1 : IntKind.i64.wrap (i - cb) = (k : Int) := by rw [IntKind.wrap_i64]; omega
 clear hk
 go_enter Try.func83, Try.ntmps83
 go_wp2_with fail
 go_ret
 exact ⟨rfl, BX.out⟩
end Go.Proofs.Ytlhoonohpfpkbaa
namespace Go.Proofs.Ytlhoonohpfpkbaa
open Go.ChangeShapes Go.WideShapes Go.ChangeAt Go.RowKit Go.PlainAid
set_option linter.unusedVariables false
theorem Nums.sh3 {w : World} {base : Nat} {v : Value} {l : List Int} (h : Nums w base v l) : ∃ A n c, v = .slice A n c := by
 obtain ⟨A, c, e, _⟩ := h.shape
 exact ⟨A, _, c, e⟩
def othL (id : Int) : Nat → List Int
 | 0 => []
 | k + 1 => if (k : Int) = id then othL id k else othL id k ++ [(k : Int)]
theorem othL_len (id : Int) : ∀ k, (othL id k).length ≤ k
 | 0 => Nat.le_refl _
 | k + 1 => by
  have := othL_len id k
  unfold othL
  split
  ·omega
  ·rw [List.length_append]
   simp only [List.length_cons, List.length_nil]
   omega
theorem othL_in (id : Int) : ∀ k, ∀ z ∈ othL id k, 0 ≤ z ∧ z < (k : Int) ∧ z ≠ id
 | 0, z, h => by cases h
 | k + 1, z, h => by
  unfold othL at h
  split at h
  ·have := othL_in id k z h
   omega
  ·rename_i hne
   rcases List.mem_append.1 h with h | h
   ·have := othL_in id k z h
    omega
   ·rw [List.mem_singleton.1 h]
    omega
set_option maxRecDepth 20000 in
set_option maxHeartbeats 4000000 in
theorem othersI (ci ct cv cr cd cb cbt cc : Int) (n : Nat) (u0 u1 u2 u3 : Value) (w : World) (hn : n ≤ 5) : Calls Try.prog 58 #[.agg #[.int .i64 ci, .int .i64 (n : Int), .int .i64 ct, .int .i64 cv, .int .i64 cr, .int .i64 cd, .int .i64 cb, .int .i64 cbt, u0, .int .i64 cc, u1, u2, u3]] w fun e w' => (∃ u, e = .returned u ∧ Nums w' w.heap.size u (othL ci n)) ∧ Below w.heap.size w w' := by
 have HLn : Hid (∀ k, k ≤ n → (othL ci k).length ≤ 2097152) := fun k hk => by have := othL_len ci k; omega
 have HY : Hid (∀ k : Nat, (k : Int) = ci → othL ci (k + 1) = othL ci k) := fun k h => by rw [othL]; exact if_pos h
 have HN : Hid (∀ k : Nat, ¬ (k : Int) = ci → othL ci (k + 1) = othL ci k ++ [(k : Int)]) := fun k h => by rw [othL]; exact if_neg h
 obtain ⟨X0, hX0⟩ : ∃ X0, X0 = w.alloc (.cells #[.int .i64 ci, .int .i64 (n : Int), .int .i64 ct, .int .i64 cv, .int .i64 cr, .int .i64 cd, .int .i64 cb, .int .i64 cbt, u0, .int .i64 cc, u1, u2, u3] 29) := ⟨_, rfl⟩
 have B0 : Hid (Below w.heap.size w X0) := by unfold Hid; rw [hX0]; exact (Below.refl _ _).alloc (Nat.le_refl _) _
 have K0 : Hid (Blk X0 w.heap.size #[.int .i64 ci, .int .i64 (n : Int), .int .i64 ct, .int .i64 cv, .int .i64 cr, .int .i64 cd, .int .i64 cb, .int .i64 cbt, u0, .int .i64 cc, u1, u2, u3] 29) := by unfold Hid; rw [hX0]; exact Blk.new w _ _
 go_enter Try.func58, Try.ntmps58
 go_wp2_with fail
 rw [← hX0]
 clear hX0
 go_loopw [3, 4, 7] (fun v3 v4 v7 wr => ∃ k : Nat, k ≤ n ∧ v7 = .int .i64 (k : Int) ∧ Nums wr X0.heap.size v3 (othL ci k) ∧ Below X0.heap.size X0 wr) (fun _ _ v _ => n - (intOf v).toNat)
 case atStart => exact ⟨0, by omega, rfl, Nums.nil _ _, Below.refl _ _⟩
 case round =>
  obtain ⟨k, hk, rfl, hN, hb⟩ := hrel
  have NN := Hid.mk hN
  have BR := Hid.mk hb
  have KB := Hid.mk (K0.out.on hb K0.out.lt)
  obtain ⟨Av, av, cv', rfl⟩ := hN.sh3
  clear hN hb
  by_cases hlt : k < n
  ·have q2 : (k : Int) < (n : Int) := by omega
   have k0 := KB.out.cell 0 _ rfl
   by_cases he : (k : Int) = ci
   ·have e1 : ((k : Int) != ci) = false := by rw [he]; exact bne_self_eq_false _
    have HE := Hid.mk (HY.out k he)
    clear he
    go_wp2_with fail
    go_roundw
    case rel => exact ⟨k + 1, by omega, by go_num, by rw [HE.out]; exact NN.out, BR.out⟩
    case measure => simp [intOf]; omega
   ·have e1 : ((k : Int) != ci) = true := bne_iff_ne.2 he
    have HE := Hid.mk (HN.out k he)
    have hLk := HLn.out k hk
    have NN2 := Hid.mk NN.out
    generalize othL ci k = ol at *
    have HLo : Hid (ol.length ≤ 2097152) := hLk
    clear hLk
    clear he
    go_wp2_with (at_builtin; refine wpList_append_num rfl (.tmp 14) (.tmp 16) 23 rfl Try.underlying23 Try.infoInt X0.heap.size _ ol rfl NN2.out (k : Int) rfl HLo.out BR.out.size ?_; intro v' w2 hN2 hb2 hk2; obtain ⟨A2, c2, hsh, -⟩ := hN2.shape; generalize (ol ++ [(k : Int)]).length = m2 at hsh; subst hsh; refine Shut.out ?_)
    have NF : Hid (Nums w2 X0.heap.size (.slice A2 m2 c2) (othL ci (k + 1))) := by unfold Hid; rw [HE.out]; exact hN2
    have BF : Hid (Below X0.heap.size X0 w2) := BR.out.trans hb2
    clear hN2 hb2 hk2
    unfold Shut
    go_wp2_with fail
    go_roundw
    case rel => exact ⟨k + 1, by omega, by go_num, NF.out, BF.out⟩
    case measure => simp [intOf]; omega
  ·obtain rfl : k = n := by omega
   go_wp2_with fail
   go_ret
   exact ⟨⟨_, rfl, NN.out.mono B0.out.size⟩, B0.out.trans (BR.out.mono B0.out.size)⟩
end Go.Proofs.Ytlhoonohpfpkbaa
namespace Go.Proofs.Ytlhoonohpfpkbaa
open Go.ChangeShapes Go.WideShapes Go.ChangeAt Go.RowKit Go.PlainAid
set_option linter.unusedVariables false
set_option maxHeartbeats 4000000 in
theorem yesI (ci cp ct cv cr cd cb cbt : Int) (lg : List Ent) (cc : Int) (ys ns ms : List Int) (A0 : Option Addr) (n0 c0 : Nat) (u1 u2 u3 : Value) (w : World) (B : Nat) (hv : NumsV w B u1 ys) (hn : ys.length ≤ 1048576) (hp0 : 1 ≤ cp) (hp1 : cp ≤ 5) (hB : B ≤ w.heap.size) : Calls Try.prog 81 #[.agg #[.int .i64 ci, .int .i64 cp, .int .i64 ct, .int .i64 cv, .int .i64 cr, .int .i64 cd, .int .i64 cb, .int .i64 cbt, .slice A0 n0 c0, .int .i64 cc, u1, u2, u3]] w fun e w' => e = .returned (.bool (seekB ⟨ci, cp, ct, cv, cr, cd, cb, cbt, lg, cc, ys, ns, ms⟩)) ∧ Below w.heap.size w w' := by
 have cH := hasI ys u1 ci
 have HV : Hid (NumsV w B u1 ys) := hv
 have HBB : Hid (B ≤ w.heap.size) := hB
 obtain ⟨A1, c1, rfl, _, _, hc⟩ := hv
 have HC : Hid (∀ j, j < ys.length → ∃ g off, A1 = some ⟨g, off, none⟩ ∧ g < B ∧ w.cell? ⟨g, off + j, none⟩ = some (.int .i64 (ys.getD j 0))) := hc
 have cM := majI ci cp ct cv cr cd cb cbt cc (ys.length : Int) (.slice A0 n0 c0) (.slice A1 ys.length c1) u2 u3
 have HNo : Hid (∀ j, j < ys.length → ¬ ((if j = 0 then 0 else ys.getD (j - 1) 0 + 1) ≤ ys.getD j 0 ∧ ys.getD j 0 ≤ cp - 1) → (∀ k, k < j → 0 ≤ ys.getD k 0) → seekB ⟨ci, cp, ct, cv, cr, cd, cb, cbt, lg, cc, ys, ns, ms⟩ = false) := fun j hj hno hk => by
  refine seekB_no fun h => hno ⟨?_, (h.1 j hj).2⟩
  split
  ·exact (h.1 j hj).1
  ·have := h.2.1 (j - 1) (by show j - 1 + 1 < ys.length; omega)
   rw [show j - 1 + 1 = j by omega] at this
   exact this
 have HAl : Hid ((∀ j, j < ys.length → (if j = 0 then 0 else ys.getD (j - 1) 0 + 1) ≤ ys.getD j 0 ∧ ys.getD j 0 ≤ cp - 1) → (seekB ⟨ci, cp, ct, cv, cr, cd, cb, cbt, lg, cc, ys, ns, ms⟩ = (decide (ci ∈ ys) && !decide (cp < 2 * (ys.length : Int))))) := fun h => by
  have h0 : ∀ j, j < ys.length → 0 ≤ ys.getD j 0 := by
   intro j
   induction j with
   | zero => intro hj; have := (h 0 hj).1; simpa using this
   | succ j ih =>
    intro hj
    have h1 := (h (j + 1) hj).1
    have h2 := ih (by omega)
    rw [if_neg (by omega), show j + 1 - 1 = j by omega] at h1
    omega
  by_cases hm : ci ∈ ys
  ·by_cases hg : cp < 2 * (ys.length : Int)
   ·rw [decide_eq_true hm, decide_eq_true hg]
    exact seekB_no fun q => by have := q.2.2.2; simp only at this; omega
   ·rw [decide_eq_true hm, decide_eq_false hg]
    refine seekB_yes (fun j hj => ⟨h0 j hj, (h j hj).2⟩) (fun j hj => ?_) hm (by simp only; omega)
    have := (h (j + 1) hj).1
    rw [if_neg (by omega), show j + 1 - 1 = j by omega] at this
    simp only
    omega
  ·rw [decide_eq_false hm]
   exact seekB_no fun q => hm q.2.2.1
 have q1 : (ys.length : Int) ≤ 1048576 := by omega
 have HN1 : Hid (ys.length ≤ 1048576) := hn
 clear hc hB hn
 obtain ⟨X0, hX0⟩ : ∃ X0, X0 = w.alloc (.cells #[.int .i64 ci, .int .i64 cp, .int .i64 ct, .int .i64 cv, .int .i64 cr, .int .i64 cd, .int .i64 cb, .int .i64 cbt, .slice A0 n0 c0, .int .i64 cc, .slice A1 ys.length c1, u2, u3] 29) := ⟨_, rfl⟩
 have B0 : Hid (Below w.heap.size w X0) := by unfold Hid; rw [hX0]; exact (Below.refl _ _).alloc (Nat.le_refl _) _
 have K0 : Hid (Blk X0 w.heap.size #[.int .i64 ci, .int .i64 cp, .int .i64 ct, .int .i64 cv, .int .i64 cr, .int .i64 cd, .int .i64 cb, .int .i64 cbt, .slice A0 n0 c0, .int .i64 cc, .slice A1 ys.length c1, u2, u3] 29) := by unfold Hid; rw [hX0]; exact Blk.new w _ _
 have w1 : IntKind.i64.wrap (cp - 1) = cp - 1 := by rw [IntKind.wrap_i64]; omega
 generalize hN : ys.length = n at *
 clear hN
 go_enter Try.func81, Try.ntmps81
 go_wp2_with fail
 rw [← hX0]
 clear hX0
 go_loopw [3, 9] (fun v3 v9 wr => ∃ k : Nat, k ≤ n ∧ v9 = .int .i64 (k : Int) ∧ v3 = .int .i64 (if k = 0 then 0 else ys.getD (k - 1) 0 + 1) ∧ X0 = wr ∧ Hid (∀ j, j < k → (if j = 0 then 0 else ys.getD (j - 1) 0 + 1) ≤ ys.getD j 0 ∧ ys.getD j 0 ≤ cp - 1) ∧ Hid (∀ j, j < k → 0 ≤ ys.getD j 0)) (fun _ v _ => n - (intOf v).toNat)
 case atStart => exact ⟨0, by omega, rfl, rfl, rfl, fun j hj => by omega, fun j hj => by omega⟩
 case round =>
  obtain ⟨k, hk, rfl, rfl, rfl, HR, HR0⟩ := hrel
  have k1 := K0.out.cell 1 _ rfl
  by_cases hlt : k < n
  ·have q2 : (k : Int) < (n : Int) := by omega
   obtain ⟨g, off, rfl, hg, d0⟩ := HC.out k hlt
   rw [← B0.out.cell (p := ⟨_, _, none⟩) (Nat.lt_of_lt_of_le hg HBB.out)] at d0
   have HNk := Hid.mk (HNo.out k hlt)
   have HSt : Hid ((if k + 1 = 0 then 0 else ys.getD (k + 1 - 1) 0 + 1) = ys.getD k 0 + 1) := by unfold Hid; rw [if_neg (by omega), show k + 1 - 1 = k by omega]
   have HLe : Hid (0 ≤ (if k = 0 then 0 else ys.getD (k - 1) 0 + 1)) := by
    unfold Hid
    split
    ·omega
    ·have := HR0.out (k - 1) (by omega)
     omega
   generalize hle : (if k = 0 then 0 else ys.getD (k - 1) 0 + 1) = le at *
   have HLE : Hid ((if k = 0 then 0 else ys.getD (k - 1) 0 + 1) = le) := hle
   have HYk : Hid (∀ y, ys.getD k 0 = y → le ≤ y ∧ y ≤ cp - 1 → ∀ j, j < k + 1 → (if j = 0 then 0 else ys.getD (j - 1) 0 + 1) ≤ ys.getD j 0 ∧ ys.getD j 0 ≤ cp - 1) := fun y hy h j hj => by
    by_cases e : j = k
    ·subst e; rw [HLE.out, hy]; exact h
    ·exact HR.out j (by omega)
   have HZk : Hid (∀ y, ys.getD k 0 = y → 0 ≤ y → ∀ j, j < k + 1 → 0 ≤ ys.getD j 0) := fun y hy h j hj => by
    by_cases e : j = k
    ·subst e; rw [hy]; exact h
    ·exact HR0.out j (by omega)
   generalize hy : ys.getD k 0 = y at *
   have HY : Hid (ys.getD k 0 = y) := hy
   clear hy hle
   have a1 := inW y le (cp - 1)
   cases h1 : inIt y le (cp - 1) <;> rw [h1] at a1
   ·have HF : Hid (seekB ⟨ci, cp, ct, cv, cr, cd, cb, cbt, lg, cc, ys, ns, ms⟩ = false) := HNk.out (fun h => by unfold inIt at h1; simp [h.1, h.2] at h1) HR0.out
    clear h1
    go_wp2_with fail
    refine (a1 _).mono ?_
    rintro e w' ⟨rfl, rfl⟩
    go_wp2_with fail
    go_ret
    exact ⟨by rw [HF.out]; rfl, B0.out⟩
   ·obtain ⟨b1, b2⟩ := inIt_in _ _ _ h1
    have HB1 : Hid (le ≤ y ∧ y ≤ cp - 1) := ⟨b1, b2⟩
    have w2 : IntKind.i64.wrap (y + 1) = y + 1 := by have := HLe.out; rw [IntKind.wrap_i64]; omega
    have HY0 : Hid (0 ≤ y) := Int.le_trans HLe.out b1
    clear h1 b1 b2
    go_wp2_with fail
    refine (a1 _).mono ?_
    rintro e w' ⟨rfl, rfl⟩
    go_wp2_with fail
    go_roundw
    case rel => exact ⟨k + 1, by omega, by go_num, by rw [HSt.out], by trivial, HYk.out y rfl HB1.out, HZk.out y rfl HY0.out⟩
    case measure => simp [intOf]; omega
  ·obtain rfl : k = n := by omega
   have HE := Hid.mk (HAl.out HR.out)
   generalize (if k = 0 then 0 else ys.getD (k - 1) 0 + 1) = le at *
   have k0 := K0.out.cell 0 _ rfl
   have k10 := K0.out.cell 10 _ rfl
   have cH1 := cH X0 B (HV.out.on (B0.out.mono HBB.out)) HN1.out
   have cM1 := cM X0 (by omega) (by omega)
   clear cH cM
   cases hm : decide (ci ∈ ys) <;> rw [hm] at cH1 HE
   ·go_wp2_with fail
    refine cH1.mono ?_
    rintro e w' ⟨rfl, rfl⟩
    go_wp2_with fail
    go_ret
    exact ⟨by rw [HE.out]; rfl, B0.out⟩
   ·cases hg : decide (cp < 2 * (k : Int)) <;> rw [hg] at cM1 HE
    all_goals
     have kk := cellsC13 K0.out
     clear hm hg
     go_wp2_with fail
     refine cH1.mono ?_
     rintro e w' ⟨rfl, rfl⟩
     go_wp2_with fail
     refine cM1.mono ?_
     rintro e w' ⟨rfl, hb⟩
     have B1 := Hid.mk (B0.out.trans (hb.mono B0.out.size))
     clear hb
     go_wp2_with fail
     go_ret
     exact ⟨by rw [HE.out]; rfl, B1.out⟩
end Go.Proofs.Ytlhoonohpfpkbaa
namespace Go.Proofs.Ytlhoonohpfpkbaa
open Go.ChangeShapes Go.WideShapes Go.ChangeAt Go.RowKit Go.PlainAid
set_option linter.unusedVariables false
set_option maxHeartbeats 8000000 in
theorem reachI (ci cp ct cv cr cd cb cbt : Int) (lg : List Ent) (cc : Int) (ys ns ms : List Int) (A0 : Option Addr) (n0 c0 : Nat) (u1 u2 u3 : Value) (w : World) (B : Nat) (hn : NumsV w B u2 ns) (hm : NumsV w B u3 ms) (hln : ns.length ≤ 1048576) (hlm : ms.length ≤ 1048576) (hp0 : 1 ≤ cp) (hp1 : cp ≤ 5) (hi0 : 0 ≤ ci) (hi1 : ci ≤ cp - 1) (hb0 : 0 ≤ cb) (hb1 : cb ≤ 200000) (hl0 : lg.length = n0) (hl1 : n0 ≤ 1048576) (hB : B ≤ w.heap.size) : Calls Try.prog 82 #[.agg #[.int .i64 ci, .int .i64 cp, .int .i64 ct, .int .i64 cv, .int .i64 cr, .int .i64 cd, .int .i64 cb, .int .i64 cbt, .slice A0 n0 c0, .int .i64 cc, u1, u2, u3]] w fun e w' => e = .returned (.bool (reachB ⟨ci, cp, ct, cv, cr, cd, cb, cbt, lg, cc, ys, ns, ms⟩)) ∧ Below w.heap.size w w' := by
 have HBB : Hid (B ≤ w.heap.size) := hB
 have HLs : Hid (cLast ⟨ci, cp, ct, cv, cr, cd, cb, cbt, lg, cc, ys, ns, ms⟩ = cb + (n0 : Int)) := by unfold Hid cLast; rw [hl0]
 obtain ⟨A2, c2, rfl, _, _, hc2⟩ := hn
 obtain ⟨A3, c3, rfl, _, _, hc3⟩ := hm
 have H2 : Hid (∀ j, j < ns.length → ∃ g off, A2 = some ⟨g, off, none⟩ ∧ g < B ∧ w.cell? ⟨g, off + j, none⟩ = some (.int .i64 (ns.getD j 0))) := hc2
 have H3 : Hid (∀ j, j < ms.length → ∃ g off, A3 = some ⟨g, off, none⟩ ∧ g < B ∧ w.cell? ⟨g, off + j, none⟩ = some (.int .i64 (ms.getD j 0))) := hc3
 have HN1 : Hid ((ns.length : Int) ≠ cp → reachB ⟨ci, cp, ct, cv, cr, cd, cb, cbt, lg, cc, ys, ns, ms⟩ = false) := fun h => reachB_no fun q => h q.1
 have HN2 : Hid ((ms.length : Int) ≠ cp → reachB ⟨ci, cp, ct, cv, cr, cd, cb, cbt, lg, cc, ys, ns, ms⟩ = false) := fun h => reachB_no fun q => h q.2.1
 have HNo : Hid (∀ j, j < ms.length → ¬ (0 ≤ ms.getD j 0 ∧ ms.getD j 0 < ns.getD j 0 ∧ ns.getD j 0 ≤ cb + (n0 : Int) + 1) → reachB ⟨ci, cp, ct, cv, cr, cd, cb, cbt, lg, cc, ys, ns, ms⟩ = false) := fun j hj h => reachB_no fun q => h (by have := q.2.2.1 j hj; rw [HLs.out] at this; exact this)
 have HYe : Hid ((ns.length : Int) = cp → (ms.length : Int) = cp → (∀ j, j < ms.length → 0 ≤ ms.getD j 0 ∧ ms.getD j 0 < ns.getD j 0 ∧ ns.getD j 0 ≤ cb + (n0 : Int) + 1) → reachB ⟨ci, cp, ct, cv, cr, cd, cb, cbt, lg, cc, ys, ns, ms⟩ = (ms.getD ci.toNat 0 == cb + (n0 : Int))) := fun h1 h2 h3 => by
  by_cases h : ms.getD ci.toNat 0 = cb + (n0 : Int)
  ·rw [h, beq_self_eq_true]
   exact reachB_yes ⟨h1, h2, fun j hj => by rw [HLs.out]; exact h3 j hj, by rw [HLs.out]; exact h⟩
  ·rw [beq_eq_false_iff_ne.2 h]
   exact reachB_no fun q => h (by have := q.2.2.2; rw [HLs.out] at this; exact this)
 have q2 : (ns.length : Int) ≤ 1048576 := by omega
 have q3 : (ms.length : Int) ≤ 1048576 := by omega
 clear hc2 hc3 hl0
 by_cases hE2 : (ns.length : Int) = cp
 rotate_left
 ·have HF := Hid.mk (HN1.out hE2)
  have e1 : ((ns.length : Int) != cp) = true := bne_iff_ne.2 hE2
  have HB1 : ∀ a, Hid (Below w.heap.size w (w.alloc a)) := fun a => (Below.refl _ _).alloc (Nat.le_refl _) _
  generalize ns.length = p2 at *
  generalize ms.length = p3 at *
  clear hE2
  go_enter Try.func82, Try.ntmps82
  go_wp2_with fail
  go_ret
  exact ⟨by rw [HF.out]; rfl, (HB1 _).out⟩
 by_cases hE3 : (ms.length : Int) = cp
 rotate_left
 ·have HF := Hid.mk (HN2.out hE3)
  have e1 : ((ns.length : Int) != cp) = false := by rw [hE2]; exact bne_self_eq_false cp
  have e2 : ((ms.length : Int) != cp) = true := bne_iff_ne.2 hE3
  have HB1 : ∀ a, Hid (Below w.heap.size w (w.alloc a)) := fun a => (Below.refl _ _).alloc (Nat.le_refl _) _
  generalize ns.length = p2 at *
  generalize ms.length = p3 at *
  clear hE2 hE3
  go_enter Try.func82, Try.ntmps82
  go_wp2_with fail
  go_ret
  exact ⟨by rw [HF.out]; rfl, (HB1 _).out⟩
 have HYF := Hid.mk (HYe.out hE2 hE3)
 clear HYe
 have hpp : ns.length = ms.length := by omega
 rw [hpp] at H2 hE2 ⊢
 generalize ms.length = p at *
 clear hpp HN1 HN2 hln hlm q2 hE2
 obtain rfl : cp = (p : Int) := hE3.symm
 clear hE3
 have hp : p ≤ 5 := by omega
 have hcip : ci.toNat < p := by omega
 have HCI : Hid ((ci.toNat : Int) = ci) := by unfold Hid; omega
 have hcil : ci < (p : Int) := by omega
 have e0 : ((p : Int) != (p : Int)) = false := bne_self_eq_false _
 obtain ⟨X0, hX0⟩ : ∃ X0, X0 = w.alloc (.cells #[.int .i64 ci, .int .i64 (p : Int), .int .i64 ct, .int .i64 cv, .int .i64 cr, .int .i64 cd, .int .i64 cb, .int .i64 cbt, .slice A0 n0 c0, .int .i64 cc, u1, .slice A2 p c2, .slice A3 p c3] 29) := ⟨_, rfl⟩
 have B0 : Hid (Below w.heap.size w X0) := by unfold Hid; rw [hX0]; exact (Below.refl _ _).alloc (Nat.le_refl _) _
 have K0 : Hid (Blk X0 w.heap.size #[.int .i64 ci, .int .i64 (p : Int), .int .i64 ct, .int .i64 cv, .int .i64 cr, .int .i64 cd, .int .i64 cb, .int .i64 cbt, .slice A0 n0 c0, .int .i64 cc, u1, .slice A2 p c2, .slice A3 p c3] 29) := by unfold Hid; rw [hX0]; exact Blk.new w _ _
 have cL := fun wx => lastI ci (p : Int) ct cv cr cd cb cbt cc A0 n0 c0 u1 (.slice A2 p c2) (.slice A3 p c3) wx hb0 hb1 hl1
 have w1 : IntKind.i64.wrap (cb + (n0 : Int) + 1) = cb + (n0 : Int) + 1 := by rw [IntKind.wrap_i64]; omega
 go_enter Try.func82, Try.ntmps82
 go_wp2_with fail
 rw [← hX0]
 clear hX0
 go_loopw [3, 4, 22] (fun v3 v4 v22 wr => ∃ k : Nat, k ≤ p ∧ v22 = .int .i64 (k : Int) ∧ Below X0.heap.size X0 wr ∧ Hid (∀ j, j < k → 0 ≤ ms.getD j 0 ∧ ms.getD j 0 < ns.getD j 0 ∧ ns.getD j 0 ≤ cb + (n0 : Int) + 1)) (fun _ _ v _ => p - (intOf v).toNat)
 case atStart => exact ⟨0, by omega, rfl, Below.refl _ _, fun j hj => by omega⟩
 case round =>
  obtain ⟨k, hk, rfl, hbr, HR⟩ := hrel
  have BR := Hid.mk hbr
  have KB := Hid.mk (K0.out.on hbr K0.out.lt)
  have BW : Hid (Below w.heap.size w wr) := B0.out.trans (hbr.mono B0.out.size)
  clear hbr
  by_cases hlt : k < p
  ·have q4 : (k : Int) < (p : Int) := by omega
   obtain ⟨g3, o3, rfl, hg3, d0⟩ := H3.out k hlt
   obtain ⟨g2, o2, rfl, hg2, d1⟩ := H2.out k hlt
   have hgw : g2 < wr.heap.size := Nat.lt_of_lt_of_le hg2 (Nat.le_trans HBB.out BW.out.size)
   rw [← BW.out.cell (p := ⟨_, _, none⟩) (Nat.lt_of_lt_of_le hg3 HBB.out)] at d0
   rw [← BW.out.cell (p := ⟨_, _, none⟩) (Nat.lt_of_lt_of_le hg2 HBB.out)] at d1
   have HNk := Hid.mk (HNo.out k hlt)
   have HYk : Hid (∀ my ny, ms.getD k 0 = my → ns.getD k 0 = ny → 0 ≤ my ∧ my < ny ∧ ny ≤ cb + (n0 : Int) + 1 → ∀ j, j < k + 1 → 0 ≤ ms.getD j 0 ∧ ms.getD j 0 < ns.getD j 0 ∧ ns.getD j 0 ≤ cb + (n0 : Int) + 1) := fun my ny h1 h2 h j hj => by
    by_cases e : j = k
    ·subst e; rw [h1, h2]; exact h
    ·exact HR.out j (by omega)
   have HRF : Hid (∃ my ny, ms.getD k 0 = my ∧ ns.getD k 0 = ny) := ⟨_, _, rfl, rfl⟩
   generalize hmy : ms.getD k 0 = my at *
   generalize hny : ns.getD k 0 = ny at *
   have HQ : Hid (ms.getD k 0 = my ∧ ns.getD k 0 = ny) := ⟨hmy, hny⟩
   clear hmy hny HRF HR
   by_cases h1 : my < 0
   ·have HF : Hid (reachB ⟨ci, (p : Int), ct, cv, cr, cd, cb, cbt, lg, cc, ys, ns, ms⟩ = false) := HNk.out (fun h => by omega)
    have z1 : decide (my < 0) = true := decide_eq_true h1
    clear HYk HNk
    go_wp2_with fail
    have V0 : Hid (Below wr.heap.size wr wr.drew) := (Below.refl _ _).drew
    have KY0 := Hid.mk (KB.out.on V0.out KB.out.lt)
    have SS0 := Hid.mk (show (fun w' => w'.cell? ⟨w.heap.size, 0, none⟩ = some (.int .i64 ci) ∧ w'.cell? ⟨w.heap.size, 1, none⟩ = some (.int .i64 (p : Int)) ∧ w'.cell? ⟨w.heap.size, 2, none⟩ = some (.int .i64 ct) ∧ w'.cell? ⟨w.heap.size, 3, none⟩ = some (.int .i64 cv) ∧ w'.cell? ⟨w.heap.size, 4, none⟩ = some (.int .i64 cr) ∧ w'.cell? ⟨w.heap.size, 5, none⟩ = some (.int .i64 cd) ∧ w'.cell? ⟨w.heap.size, 6, none⟩ = some (.int .i64 cb) ∧ w'.cell? ⟨w.heap.size, 7, none⟩ = some (.int .i64 cbt) ∧ w'.cell? ⟨w.heap.size, 8, none⟩ = some (.slice A0 n0 c0) ∧ w'.cell? ⟨w.heap.size, 9, none⟩ = some (.int .i64 cc) ∧ w'.cell? ⟨w.heap.size, 10, none⟩ = some (u1) ∧ w'.cell? ⟨w.heap.size, 11, none⟩ = some (.slice (some ⟨g2, o2, none⟩) p c2) ∧ w'.cell? ⟨w.heap.size, 12, none⟩ = some (.slice (some ⟨g3, o3, none⟩) p c3) ∧ w'.cell? ⟨g2, o2 + k, none⟩ = some (.int .i64 ny)) wr.drew from ⟨KY0.out.cell 0 _ rfl, KY0.out.cell 1 _ rfl, KY0.out.cell 2 _ rfl, KY0.out.cell 3 _ rfl, KY0.out.cell 4 _ rfl, KY0.out.cell 5 _ rfl, KY0.out.cell 6 _ rfl, KY0.out.cell 7 _ rfl, KY0.out.cell 8 _ rfl, KY0.out.cell 9 _ rfl, KY0.out.cell 10 _ rfl, KY0.out.cell 11 _ rfl, KY0.out.cell 12 _ rfl, (by rw [V0.out.cell (p := ⟨g2, _, none⟩) hgw]; exact d1)⟩)
    refine wp_region_until (fun w' => w'.cell? ⟨w.heap.size, 0, none⟩ = some (.int .i64 ci) ∧ w'.cell? ⟨w.heap.size, 1, none⟩ = some (.int .i64 (p : Int)) ∧ w'.cell? ⟨w.heap.size, 2, none⟩ = some (.int .i64 ct) ∧ w'.cell? ⟨w.heap.size, 3, none⟩ = some (.int .i64 cv) ∧ w'.cell? ⟨w.heap.size, 4, none⟩ = some (.int .i64 cr) ∧ w'.cell? ⟨w.heap.size, 5, none⟩ = some (.int .i64 cd) ∧ w'.cell? ⟨w.heap.size, 6, none⟩ = some (.int .i64 cb) ∧ w'.cell? ⟨w.heap.size, 7, none⟩ = some (.int .i64 cbt) ∧ w'.cell? ⟨w.heap.size, 8, none⟩ = some (.slice A0 n0 c0) ∧ w'.cell? ⟨w.heap.size, 9, none⟩ = some (.int .i64 cc) ∧ w'.cell? ⟨w.heap.size, 10, none⟩ = some (u1) ∧ w'.cell? ⟨w.heap.size, 11, none⟩ = some (.slice (some ⟨g2, o2, none⟩) p c2) ∧ w'.cell? ⟨w.heap.size, 12, none⟩ = some (.slice (some ⟨g3, o3, none⟩) p c3) ∧ w'.cell? ⟨g2, o2 + k, none⟩ = some (.int .i64 ny)) (fun _ => false) 22 (by rfl) (by kernel_rfl) ?_
    generalize wr.drew = Y0 at *
    refine pF 0 ?_
    refine pF 1 ?_
    refine pF 2 ?_
    refine sF 3 ?_
    refine sF 4 ?_
    refine sF 5 ?_
    refine sF 6 ?_
    refine sF 7 ?_
    refine sF 8 ?_
    refine sF 9 ?_
    refine pF 10 ?_
    refine pF 11 ?_
    refine sF 12 ?_
    refine sF 13 ?_
    refine sF 14 ?_
    refine sF 15 ?_
    refine sF 16 ?_
    refine sF 17 ?_
    refine sF 18 ?_
    refine sF 19 ?_
    refine sF 20 ?_
    refine pF 21 ?_
    refine until_done (by kernel_rfl) ?_ _
    go_wp2_with fail
    go_ret
    exact ⟨by rw [HF.out]; rfl, BW.out.trans (V0.out.mono BW.out.size)⟩
   have z1 : decide (my < 0) = false := decide_eq_false h1
   by_cases h2 : ny ≤ my
   ·have HF : Hid (reachB ⟨ci, (p : Int), ct, cv, cr, cd, cb, cbt, lg, cc, ys, ns, ms⟩ = false) := HNk.out (fun h => by omega)
    have z2 : decide (ny ≤ my) = true := decide_eq_true h2
    clear HYk HNk
    go_wp2_with fail
    have V0 : Hid (Below wr.heap.size wr wr.drew) := (Below.refl _ _).drew
    have KY0 := Hid.mk (KB.out.on V0.out KB.out.lt)
    have SS0 := Hid.mk (show (fun w' => w'.cell? ⟨w.heap.size, 0, none⟩ = some (.int .i64 ci) ∧ w'.cell? ⟨w.heap.size, 1, none⟩ = some (.int .i64 (p : Int)) ∧ w'.cell? ⟨w.heap.size, 2, none⟩ = some (.int .i64 ct) ∧ w'.cell? ⟨w.heap.size, 3, none⟩ = some (.int .i64 cv) ∧ w'.cell? ⟨w.heap.size, 4, none⟩ = some (.int .i64 cr) ∧ w'.cell? ⟨w.heap.size, 5, none⟩ = some (.int .i64 cd) ∧ w'.cell? ⟨w.heap.size, 6, none⟩ = some (.int .i64 cb) ∧ w'.cell? ⟨w.heap.size, 7, none⟩ = some (.int .i64 cbt) ∧ w'.cell? ⟨w.heap.size, 8, none⟩ = some (.slice A0 n0 c0) ∧ w'.cell? ⟨w.heap.size, 9, none⟩ = some (.int .i64 cc) ∧ w'.cell? ⟨w.heap.size, 10, none⟩ = some (u1) ∧ w'.cell? ⟨w.heap.size, 11, none⟩ = some (.slice (some ⟨g2, o2, none⟩) p c2) ∧ w'.cell? ⟨w.heap.size, 12, none⟩ = some (.slice (some ⟨g3, o3, none⟩) p c3) ∧ w'.cell? ⟨g2, o2 + k, none⟩ = some (.int .i64 ny)) wr.drew from ⟨KY0.out.cell 0 _ rfl, KY0.out.cell 1 _ rfl, KY0.out.cell 2 _ rfl, KY0.out.cell 3 _ rfl, KY0.out.cell 4 _ rfl, KY0.out.cell 5 _ rfl, KY0.out.cell 6 _ rfl, KY0.out.cell 7 _ rfl, KY0.out.cell 8 _ rfl, KY0.out.cell 9 _ rfl, KY0.out.cell 10 _ rfl, KY0.out.cell 11 _ rfl, KY0.out.cell 12 _ rfl, (by rw [V0.out.cell (p := ⟨g2, _, none⟩) hgw]; exact d1)⟩)
    refine wp_region_until (fun w' => w'.cell? ⟨w.heap.size, 0, none⟩ = some (.int .i64 ci) ∧ w'.cell? ⟨w.heap.size, 1, none⟩ = some (.int .i64 (p : Int)) ∧ w'.cell? ⟨w.heap.size, 2, none⟩ = some (.int .i64 ct) ∧ w'.cell? ⟨w.heap.size, 3, none⟩ = some (.int .i64 cv) ∧ w'.cell? ⟨w.heap.size, 4, none⟩ = some (.int .i64 cr) ∧ w'.cell? ⟨w.heap.size, 5, none⟩ = some (.int .i64 cd) ∧ w'.cell? ⟨w.heap.size, 6, none⟩ = some (.int .i64 cb) ∧ w'.cell? ⟨w.heap.size, 7, none⟩ = some (.int .i64 cbt) ∧ w'.cell? ⟨w.heap.size, 8, none⟩ = some (.slice A0 n0 c0) ∧ w'.cell? ⟨w.heap.size, 9, none⟩ = some (.int .i64 cc) ∧ w'.cell? ⟨w.heap.size, 10, none⟩ = some (u1) ∧ w'.cell? ⟨w.heap.size, 11, none⟩ = some (.slice (some ⟨g2, o2, none⟩) p c2) ∧ w'.cell? ⟨w.heap.size, 12, none⟩ = some (.slice (some ⟨g3, o3, none⟩) p c3) ∧ w'.cell? ⟨g2, o2 + k, none⟩ = some (.int .i64 ny)) (fun _ => false) 22 (by rfl) (by kernel_rfl) ?_
    generalize wr.drew = Y0 at *
    refine pF 0 ?_
    refine pF 1 ?_
    refine pF 2 ?_
    refine pF 3 ?_
    refine tF 4 SS0.out ?_
    refine pF 5 ?_
    refine pF 6 ?_
    refine tF 7 SS0.out ?_
    refine pF 8 ?_
    refine pF 9 ?_
    refine pF 10 ?_
    refine pF 11 ?_
    refine sF 12 ?_
    refine sF 13 ?_
    refine sF 14 ?_
    refine sF 15 ?_
    refine sF 16 ?_
    refine sF 17 ?_
    refine sF 18 ?_
    refine sF 19 ?_
    refine sF 20 ?_
    refine pF 21 ?_
    refine until_done (by kernel_rfl) ?_ _
    go_wp2_with fail
    go_ret
    exact ⟨by rw [HF.out]; rfl, BW.out.trans (V0.out.mono BW.out.size)⟩
   have z2 : decide (ny ≤ my) = false := decide_eq_false h2
   by_cases h3 : cb + (n0 : Int) + 1 < ny
   ·have HF : Hid (reachB ⟨ci, (p : Int), ct, cv, cr, cd, cb, cbt, lg, cc, ys, ns, ms⟩ = false) := HNk.out (fun h => by omega)
    have z3 : decide (cb + (n0 : Int) + 1 < ny) = true := decide_eq_true h3
    clear HYk HNk
    go_wp2_with fail
    have V0 : Hid (Below wr.heap.size wr wr.drew) := (Below.refl _ _).drew
    have KY0 := Hid.mk (KB.out.on V0.out KB.out.lt)
    have SS0 := Hid.mk (show (fun w' => w'.cell? ⟨w.heap.size, 0, none⟩ = some (.int .i64 ci) ∧ w'.cell? ⟨w.heap.size, 1, none⟩ = some (.int .i64 (p : Int)) ∧ w'.cell? ⟨w.heap.size, 2, none⟩ = some (.int .i64 ct) ∧ w'.cell? ⟨w.heap.size, 3, none⟩ = some (.int .i64 cv) ∧ w'.cell? ⟨w.heap.size, 4, none⟩ = some (.int .i64 cr) ∧ w'.cell? ⟨w.heap.size, 5, none⟩ = some (.int .i64 cd) ∧ w'.cell? ⟨w.heap.size, 6, none⟩ = some (.int .i64 cb) ∧ w'.cell? ⟨w.heap.size, 7, none⟩ = some (.int .i64 cbt) ∧ w'.cell? ⟨w.heap.size, 8, none⟩ = some (.slice A0 n0 c0) ∧ w'.cell? ⟨w.heap.size, 9, none⟩ = some (.int .i64 cc) ∧ w'.cell? ⟨w.heap.size, 10, none⟩ = some (u1) ∧ w'.cell? ⟨w.heap.size, 11, none⟩ = some (.slice (some ⟨g2, o2, none⟩) p c2) ∧ w'.cell? ⟨w.heap.size, 12, none⟩ = some (.slice (some ⟨g3, o3, none⟩) p c3) ∧ w'.cell? ⟨g2, o2 + k, none⟩ = some (.int .i64 ny)) wr.drew from ⟨KY0.out.cell 0 _ rfl, KY0.out.cell 1 _ rfl, KY0.out.cell 2 _ rfl, KY0.out.cell 3 _ rfl, KY0.out.cell 4 _ rfl, KY0.out.cell 5 _ rfl, KY0.out.cell 6 _ rfl, KY0.out.cell 7 _ rfl, KY0.out.cell 8 _ rfl, KY0.out.cell 9 _ rfl, KY0.out.cell 10 _ rfl, KY0.out.cell 11 _ rfl, KY0.out.cell 12 _ rfl, (by rw [V0.out.cell (p := ⟨g2, _, none⟩) hgw]; exact d1)⟩)
    refine wp_region_until (fun w' => w'.cell? ⟨w.heap.size, 0, none⟩ = some (.int .i64 ci) ∧ w'.cell? ⟨w.heap.size, 1, none⟩ = some (.int .i64 (p : Int)) ∧ w'.cell? ⟨w.heap.size, 2, none⟩ = some (.int .i64 ct) ∧ w'.cell? ⟨w.heap.size, 3, none⟩ = some (.int .i64 cv) ∧ w'.cell? ⟨w.heap.size, 4, none⟩ = some (.int .i64 cr) ∧ w'.cell? ⟨w.heap.size, 5, none⟩ = some (.int .i64 cd) ∧ w'.cell? ⟨w.heap.size, 6, none⟩ = some (.int .i64 cb) ∧ w'.cell? ⟨w.heap.size, 7, none⟩ = some (.int .i64 cbt) ∧ w'.cell? ⟨w.heap.size, 8, none⟩ = some (.slice A0 n0 c0) ∧ w'.cell? ⟨w.heap.size, 9, none⟩ = some (.int .i64 cc) ∧ w'.cell? ⟨w.heap.size, 10, none⟩ = some (u1) ∧ w'.cell? ⟨w.heap.size, 11, none⟩ = some (.slice (some ⟨g2, o2, none⟩) p c2) ∧ w'.cell? ⟨w.heap.size, 12, none⟩ = some (.slice (some ⟨g3, o3, none⟩) p c3) ∧ w'.cell? ⟨g2, o2 + k, none⟩ = some (.int .i64 ny)) (fun _ => false) 22 (by rfl) (by kernel_rfl) ?_
    generalize wr.drew = Y0 at *
    refine pF 0 ?_
    refine pF 1 ?_
    refine pF 2 ?_
    refine pF 3 ?_
    refine tF 4 SS0.out ?_
    refine pF 5 ?_
    refine pF 6 ?_
    refine tF 7 SS0.out ?_
    refine pF 8 ?_
    refine pF 9 ?_
    refine pF 10 ?_
    refine pF 11 ?_
    refine pF 12 ?_
    refine tF 13 SS0.out ?_
    refine pF 14 ?_
    refine pF 15 ?_
    refine tF 16 SS0.out ?_
    refine tF 17 SS0.out ?_
    refine uNe 18 (fun K hK => ?_)
    go_simp
    refine (cL _).mono ?_
    rintro e Y1 ⟨rfl, hb⟩
    have V1 := Hid.mk (V0.out.trans (hb.mono V0.out.size))
    have KY1 := Hid.mk (KY0.out.on hb KY0.out.lt)
    clear hb
    refine hK.out _ _ (fun _ h => ⟨KY1.out.cell 0 _ rfl, KY1.out.cell 1 _ rfl, KY1.out.cell 2 _ rfl, KY1.out.cell 3 _ rfl, KY1.out.cell 4 _ rfl, KY1.out.cell 5 _ rfl, KY1.out.cell 6 _ rfl, KY1.out.cell 7 _ rfl, KY1.out.cell 8 _ rfl, KY1.out.cell 9 _ rfl, KY1.out.cell 10 _ rfl, KY1.out.cell 11 _ rfl, KY1.out.cell 12 _ rfl, (by rw [V1.out.cell (p := ⟨g2, _, none⟩) hgw]; exact d1)⟩) ?_
    clear hK K
    try simp only [Act.put, zQ1, zQ2, zQ3]
    refine pF 19 ?_
    refine pF 20 ?_
    refine pF 21 ?_
    refine until_done (by kernel_rfl) ?_ _
    go_wp2_with fail
    go_ret
    exact ⟨by rw [HF.out]; rfl, BW.out.trans (V1.out.mono BW.out.size)⟩
   have z3 : decide (cb + (n0 : Int) + 1 < ny) = false := decide_eq_false h3
   have HG := Hid.mk (HYk.out my ny rfl rfl ⟨by omega, by omega, by omega⟩)
   clear HYk HNk h1 h2 h3
   go_wp2_with fail
   have V0 : Hid (Below wr.heap.size wr wr.drew) := (Below.refl _ _).drew
   have KY0 := Hid.mk (KB.out.on V0.out KB.out.lt)
   have SS0 := Hid.mk (show (fun w' => w'.cell? ⟨w.heap.size, 0, none⟩ = some (.int .i64 ci) ∧ w'.cell? ⟨w.heap.size, 1, none⟩ = some (.int .i64 (p : Int)) ∧ w'.cell? ⟨w.heap.size, 2, none⟩ = some (.int .i64 ct) ∧ w'.cell? ⟨w.heap.size, 3, none⟩ = some (.int .i64 cv) ∧ w'.cell? ⟨w.heap.size, 4, none⟩ = some (.int .i64 cr) ∧ w'.cell? ⟨w.heap.size, 5, none⟩ = some (.int .i64 cd) ∧ w'.cell? ⟨w.heap.size, 6, none⟩ = some (.int .i64 cb) ∧ w'.cell? ⟨w.heap.size, 7, none⟩ = some (.int .i64 cbt) ∧ w'.cell? ⟨w.heap.size, 8, none⟩ = some (.slice A0 n0 c0) ∧ w'.cell? ⟨w.heap.size, 9, none⟩ = some (.int .i64 cc) ∧ w'.cell? ⟨w.heap.size, 10, none⟩ = some (u1) ∧ w'.cell? ⟨w.heap.size, 11, none⟩ = some (.slice (some ⟨g2, o2, none⟩) p c2) ∧ w'.cell? ⟨w.heap.size, 12, none⟩ = some (.slice (some ⟨g3, o3, none⟩) p c3) ∧ w'.cell? ⟨g2, o2 + k, none⟩ = some (.int .i64 ny)) wr.drew from ⟨KY0.out.cell 0 _ rfl, KY0.out.cell 1 _ rfl, KY0.out.cell 2 _ rfl, KY0.out.cell 3 _ rfl, KY0.out.cell 4 _ rfl, KY0.out.cell 5 _ rfl, KY0.out.cell 6 _ rfl, KY0.out.cell 7 _ rfl, KY0.out.cell 8 _ rfl, KY0.out.cell 9 _ rfl, KY0.out.cell 10 _ rfl, KY0.out.cell 11 _ rfl, KY0.out.cell 12 _ rfl, (by rw [V0.out.cell (p := ⟨g2, _, none⟩) hgw]; exact d1)⟩)
   refine wp_region_until (fun w' => w'.cell? ⟨w.heap.size, 0, none⟩ = some (.int .i64 ci) ∧ w'.cell? ⟨w.heap.size, 1, none⟩ = some (.int .i64 (p : Int)) ∧ w'.cell? ⟨w.heap.size, 2, none⟩ = some (.int .i64 ct) ∧ w'.cell? ⟨w.heap.size, 3, none⟩ = some (.int .i64 cv) ∧ w'.cell? ⟨w.heap.size, 4, none⟩ = some (.int .i64 cr) ∧ w'.cell? ⟨w.heap.size, 5, none⟩ = some (.int .i64 cd) ∧ w'.cell? ⟨w.heap.size, 6, none⟩ = some (.int .i64 cb) ∧ w'.cell? ⟨w.heap.size, 7, none⟩ = some (.int .i64 cbt) ∧ w'.cell? ⟨w.heap.size, 8, none⟩ = some (.slice A0 n0 c0) ∧ w'.cell? ⟨w.heap.size, 9, none⟩ = some (.int .i64 cc) ∧ w'.cell? ⟨w.heap.size, 10, none⟩ = some (u1) ∧ w'.cell? ⟨w.heap.size, 11, none⟩ = some (.slice (some ⟨g2, o2, none⟩) p c2) ∧ w'.cell? ⟨w.heap.size, 12, none⟩ = some (.slice (some ⟨g3, o3, none⟩) p c3) ∧ w'.cell? ⟨g2, o2 + k, none⟩ = some (.int .i64 ny)) (fun _ => false) 22 (by rfl) (by kernel_rfl) ?_
   generalize wr.drew = Y0 at *
   refine pF 0 ?_
   refine pF 1 ?_
   refine pF 2 ?_
   refine pF 3 ?_
   refine tF 4 SS0.out ?_
   refine pF 5 ?_
   refine pF 6 ?_
   refine tF 7 SS0.out ?_
   refine pF 8 ?_
   refine pF 9 ?_
   refine pF 10 ?_
   refine pF 11 ?_
   refine pF 12 ?_
   refine tF 13 SS0.out ?_
   refine pF 14 ?_
   refine pF 15 ?_
   refine tF 16 SS0.out ?_
   refine tF 17 SS0.out ?_
   refine uNe 18 (fun K hK => ?_)
   go_simp
   refine (cL _).mono ?_
   rintro e Y1 ⟨rfl, hb⟩
   have V1 := Hid.mk (V0.out.trans (hb.mono V0.out.size))
   have KY1 := Hid.mk (KY0.out.on hb KY0.out.lt)
   clear hb
   refine hK.out _ _ (fun _ h => ⟨KY1.out.cell 0 _ rfl, KY1.out.cell 1 _ rfl, KY1.out.cell 2 _ rfl, KY1.out.cell 3 _ rfl, KY1.out.cell 4 _ rfl, KY1.out.cell 5 _ rfl, KY1.out.cell 6 _ rfl, KY1.out.cell 7 _ rfl, KY1.out.cell 8 _ rfl, KY1.out.cell 9 _ rfl, KY1.out.cell 10 _ rfl, KY1.out.cell 11 _ rfl, KY1.out.cell 12 _ rfl, (by rw [V1.out.cell (p := ⟨g2, _, none⟩) hgw]; exact d1)⟩) ?_
   clear hK K
   try simp only [Act.put, zQ1, zQ2, zQ3]
   refine pF 19 ?_
   refine pF 20 ?_
   refine pF 21 ?_
   refine until_done (by kernel_rfl) ?_ _
   go_wp2_with fail
   go_roundw
   case rel => exact ⟨k + 1, by omega, by go_num, BR.out.trans (V1.out.mono BR.out.size), HG.out⟩
   case measure => simp [intOf]; omega
  ·obtain rfl : k = p := by omega
   have HE := Hid.mk (HYF.out HR.out)
   obtain ⟨g3, o3, rfl, hg3, d0⟩ := H3.out ci.toNat hcip
   have hgw : g3 < wr.heap.size := Nat.lt_of_lt_of_le hg3 (Nat.le_trans HBB.out BW.out.size)
   rw [← BW.out.cell (p := ⟨_, _, none⟩) (Nat.lt_of_lt_of_le hg3 HBB.out)] at d0
   generalize ms.getD ci.toNat 0 = my at *
   generalize hct : ci.toNat = t at *
   obtain rfl : ci = (t : Int) := HCI.out.symm
   clear HCI hct
   go_wp2_with fail
   have V0 : Hid (Below wr.heap.size wr wr.drew) := (Below.refl _ _).drew
   have KY0 := Hid.mk (KB.out.on V0.out KB.out.lt)
   have SS0 := Hid.mk (show (fun w' => w'.cell? ⟨w.heap.size, 0, none⟩ = some (.int .i64 (t : Int)) ∧ w'.cell? ⟨w.heap.size, 1, none⟩ = some (.int .i64 (k : Int)) ∧ w'.cell? ⟨w.heap.size, 2, none⟩ = some (.int .i64 ct) ∧ w'.cell? ⟨w.heap.size, 3, none⟩ = some (.int .i64 cv) ∧ w'.cell? ⟨w.heap.size, 4, none⟩ = some (.int .i64 cr) ∧ w'.cell? ⟨w.heap.size, 5, none⟩ = some (.int .i64 cd) ∧ w'.cell? ⟨w.heap.size, 6, none⟩ = some (.int .i64 cb) ∧ w'.cell? ⟨w.heap.size, 7, none⟩ = some (.int .i64 cbt) ∧ w'.cell? ⟨w.heap.size, 8, none⟩ = some (.slice A0 n0 c0) ∧ w'.cell? ⟨w.heap.size, 9, none⟩ = some (.int .i64 cc) ∧ w'.cell? ⟨w.heap.size, 10, none⟩ = some (u1) ∧ w'.cell? ⟨w.heap.size, 11, none⟩ = some (.slice A2 k c2) ∧ w'.cell? ⟨w.heap.size, 12, none⟩ = some (.slice (some ⟨g3, o3, none⟩) k c3) ∧ w'.cell? ⟨g3, o3 + t, none⟩ = some (.int .i64 my)) wr.drew from ⟨KY0.out.cell 0 _ rfl, KY0.out.cell 1 _ rfl, KY0.out.cell 2 _ rfl, KY0.out.cell 3 _ rfl, KY0.out.cell 4 _ rfl, KY0.out.cell 5 _ rfl, KY0.out.cell 6 _ rfl, KY0.out.cell 7 _ rfl, KY0.out.cell 8 _ rfl, KY0.out.cell 9 _ rfl, KY0.out.cell 10 _ rfl, KY0.out.cell 11 _ rfl, KY0.out.cell 12 _ rfl, (by rw [V0.out.cell (p := ⟨g3, _, none⟩) hgw]; exact d0)⟩)
   refine wp_region_until (fun w' => w'.cell? ⟨w.heap.size, 0, none⟩ = some (.int .i64 (t : Int)) ∧ w'.cell? ⟨w.heap.size, 1, none⟩ = some (.int .i64 (k : Int)) ∧ w'.cell? ⟨w.heap.size, 2, none⟩ = some (.int .i64 ct) ∧ w'.cell? ⟨w.heap.size, 3, none⟩ = some (.int .i64 cv) ∧ w'.cell? ⟨w.heap.size, 4, none⟩ = some (.int .i64 cr) ∧ w'.cell? ⟨w.heap.size, 5, none⟩ = some (.int .i64 cd) ∧ w'.cell? ⟨w.heap.size, 6, none⟩ = some (.int .i64 cb) ∧ w'.cell? ⟨w.heap.size, 7, none⟩ = some (.int .i64 cbt) ∧ w'.cell? ⟨w.heap.size, 8, none⟩ = some (.slice A0 n0 c0) ∧ w'.cell? ⟨w.heap.size, 9, none⟩ = some (.int .i64 cc) ∧ w'.cell? ⟨w.heap.size, 10, none⟩ = some (u1) ∧ w'.cell? ⟨w.heap.size, 11, none⟩ = some (.slice A2 k c2) ∧ w'.cell? ⟨w.heap.size, 12, none⟩ = some (.slice (some ⟨g3, o3, none⟩) k c3) ∧ w'.cell? ⟨g3, o3 + t, none⟩ = some (.int .i64 my)) (fun _ => false) 10 (by rfl) (by kernel_rfl) ?_
   generalize wr.drew = Y0 at *
   refine pF 0 ?_
   refine tF 1 SS0.out ?_
   refine pF 2 ?_
   refine tF 3 SS0.out ?_
   refine pF 4 ?_
   refine tF 5 SS0.out ?_
   refine tF 6 SS0.out ?_
   refine uNe 7 (fun K hK => ?_)
   go_simp
   refine (cL _).mono ?_
   rintro e Y1 ⟨rfl, hb⟩
   have V1 := Hid.mk (V0.out.trans (hb.mono V0.out.size))
   have KY1 := Hid.mk (KY0.out.on hb KY0.out.lt)
   clear hb
   refine hK.out _ _ (fun _ h => ⟨KY1.out.cell 0 _ rfl, KY1.out.cell 1 _ rfl, KY1.out.cell 2 _ rfl, KY1.out.cell 3 _ rfl, KY1.out.cell 4 _ rfl, KY1.out.cell 5 _ rfl, KY1.out.cell 6 _ rfl, KY1.out.cell 7 _ rfl, KY1.out.cell 8 _ rfl, KY1.out.cell 9 _ rfl, KY1.out.cell 10 _ rfl, KY1.out.cell 11 _ rfl, KY1.out.cell 12 _ rfl, (by rw [V1.out.cell (p := ⟨g3, _, none⟩) hgw]; exact d0)⟩) ?_
   clear hK K
   try simp only [Act.put, zQ1, zQ2, zQ3]
   refine pF 8 ?_
   refine pF 9 ?_
   refine until_done (by kernel_rfl) ?_ _
   go_wp2_with fail
   go_ret
   exact ⟨by rw [HE.out]; rfl, BW.out.trans (V1.out.mono BW.out.size)⟩
end Go.Proofs.Ytlhoonohpfpkbaa
