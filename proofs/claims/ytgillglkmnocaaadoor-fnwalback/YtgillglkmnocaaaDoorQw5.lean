/- WokImpl StImpl WlMath StrAid RpDef WtAid BldLay WtDef -/
import Derived.Test.YtgillglkmnocaaaDoorRows
import Derived.Test.YtgillglkmnocaaaDoorQw1
import Derived.Test.YtgillglkmnocaaaDoorQw3
import Derived.Test.YtgillglkmnocaaaDoorQw4
import Derived.Handy
import Derived.Deep.RegionHeld3
import Derived.Test.YtgillglkmnocaaaDoorQw2
import Derived.Test.YtgillglkmnocaaaDoorQw0
import Derived.WalkKit
import Derived.ProofKit
import Derived.Laws.OwnMore
import Derived.Below
import Derived.OwnWalk
import Derived.WalkSmall
import Derived.Shelf.Strings.BuilderK
import Derived.Lib.OwnKind
namespace Go.Proofs.YtgillglkmnocaaaDoor
open Go.ChangeShapes Go.WideShapes Go.ChangeAt Go.RowKit Go.PlainAid
set_option linter.unusedVariables false
def leOk (top : Int) : Int → List Ent → Bool
 | _, [] => true
 | least, e :: r => decide (least ≤ e.term) && decide (e.term ≤ top) && decide (e.data.size ≤ 900) && leOk top e.term r
theorem entsOk_le (top : Int) : ∀ (l : List Ent) (last : Int), entsOk top last l = leOk top (max last 1) l
 | [], _ => rfl
 | e :: r, last => by
  unfold entsOk leOk
  rw [entsOk_le top r e.term]
  by_cases h1 : 1 ≤ e.term
  ·rw [Int.max_eq_left h1, decide_eq_true h1, Bool.true_and]
   congr 3
   rw [decide_eq_decide]
   omega
  ·rw [decide_eq_false h1, decide_eq_false (show ¬ max last 1 ≤ e.term by omega)]
   simp
def leAt (bt : Int) (l : List Ent) (k : Nat) : Int := if k = 0 then max bt 1 else (l.getD (k - 1) default).term
theorem le_step (top last : Int) (l : List Ent) (k : Nat) (h : k < l.length) :
  leOk top last (l.drop k) = (decide (last ≤ (l.getD k default).term) && decide ((l.getD k default).term ≤ top) && decide ((l.getD k default).data.size ≤ 900) && leOk top (l.getD k default).term (l.drop (k + 1))) := by
 rw [List.drop_eq_getElem_cons h, ← getD_at l k h]
 rfl
theorem leAt_succ (bt : Int) (l : List Ent) (k : Nat) : leAt bt l (k + 1) = (l.getD k default).term := rfl
def entsAll (x : Wl) : Bool := decide (x.ents.length ≤ 60) && decide (x.base + x.ents.length ≤ 100000) && entsOk x.term x.bterm x.ents
set_option maxHeartbeats 2000000 in
theorem entriesOkV (x : Wl) (v : Value) (w : World) (B : Nat) (hv : WalV w B v x) (hf : FitsW x) (hB : B ≤ w.heap.size) (hb1 : 0 ≤ x.base) (hb2 : x.base ≤ 100000) : Calls Tryd.prog 30 #[v] w fun e w' => e = .returned (.bool (entsAll x)) ∧ Below w.heap.size w w' := by
 obtain ⟨u, rfl, hl⟩ := hv
 obtain ⟨A, cap, rfl, hlk⟩ := ent_look hl
 have HL : Hid (∀ j, j < x.ents.length → ∃ g off, A = some ⟨g, off, none⟩ ∧ g < B ∧ _) := hlk
 have HB : Hid (B ≤ w.heap.size) := hB
 have hn0 := hf.n
 have HF : Hid (∀ e ∈ x.ents, e.data.size ≤ maxLen) := hf.d
 unfold maxLen at hn0
 have q1 : (x.ents.length : Int) ≤ 9223372036854775807 := by omega
 have HE : Hid (entsAll x = (decide (x.ents.length ≤ 60) && decide (x.base + x.ents.length ≤ 100000) && leOk x.term (max x.bterm 1) x.ents)) := by unfold Hid entsAll; rw [entsOk_le]
 clear hl hlk hB hf hn0
 generalize hN : x.ents.length = n at *
 have B0 : Hid (Below w.heap.size w (w.alloc (.cells #[.int .i64 x.term, .int .i64 x.vote, .int .i64 x.base, .int .i64 x.bterm, .slice A n cap] 26))) := (Below.refl _ _).alloc (Nat.le_refl _) _
 have K0 : Hid (Blk (w.alloc (.cells #[.int .i64 x.term, .int .i64 x.vote, .int .i64 x.base, .int .i64 x.bterm, .slice A n cap] 26)) w.heap.size #[.int .i64 x.term, .int .i64 x.vote, .int .i64 x.base, .int .i64 x.bterm, .slice A n cap] 26) := Blk.new _ _ _
 by_cases h5 : n ≤ 60
 rotate_left
 ·rw [decide_eq_false h5] at HE
  have h5' : (60 : Int) < (n : Int) := by omega
  go_enter Tryd.func30, Tryd.ntmps30
  go_wp2_with fail
  go_ret
  exact ⟨by rw [HE.out]; rfl, B0.out⟩
 rw [decide_eq_true h5] at HE
 have h5' : (n : Int) ≤ 60 := by omega
 have hw1 : IntKind.i64.wrap (x.base + (n : Int)) = x.base + (n : Int) := by rw [IntKind.wrap_i64]; omega
 by_cases h6 : x.base + (n : Int) ≤ 100000
 rotate_left
 ·rw [decide_eq_false h6] at HE
  have h6' : (100000 : Int) < x.base + (n : Int) := by omega
  go_enter Tryd.func30, Tryd.ntmps30
  go_wp2_with fail
  go_ret
  exact ⟨by rw [HE.out]; rfl, B0.out⟩
 rw [decide_eq_true h6] at HE
 have HE : Hid (entsAll x = leOk x.term (max x.bterm 1) x.ents) := by unfold Hid; rw [HE.out]; simp
 by_cases hm : 1 ≤ x.bterm
 all_goals try have hm2 : x.bterm < 1 := by omega
 all_goals
  go_enter Tryd.func30, Tryd.ntmps30
  go_wp2_with fail
  generalize w.alloc (.cells #[.int .i64 x.term, .int .i64 x.vote, .int .i64 x.base, .int .i64 x.bterm, .slice A n cap] 26) = W at *
  clear hw1 h6
  go_loopw [3, 25] (fun v3 v4 wr => ∃ k : Nat, k ≤ n ∧ v4 = .int .i64 (k : Int) ∧ v3 = .int .i64 (leAt x.bterm x.ents k) ∧ Hid (entsAll x = leOk x.term (leAt x.bterm x.ents k) (x.ents.drop k)) ∧ Below W.heap.size W wr) (fun _ i _ => n - (intOf i).toNat)
  case atStart => exact ⟨0, by omega, rfl, by first | rfl | (unfold leAt; simp [Int.max_def]; try omega), HE, Below.refl _ _⟩
  case round =>
   obtain ⟨k, hk, rfl, rfl, HR, hb⟩ := hrel
   have HB1 : Hid (Below W.heap.size W wr) := hb
   have hlt0 := K0.out.lt
   have c0 := (hb.cell (p := ⟨w.heap.size, 0, none⟩) hlt0).trans (K0.out.cell 0 (.int .i64 x.term) rfl)
   have hsz := hb.size
   clear hb hlt0
   by_cases hlt : k < n
   ·have q4 : (k : Int) < (n : Int) := by omega
    obtain ⟨g, off, rfl, hg, hc0, hc1⟩ := HL.out k (by omega)
    have hgw : g < W.heap.size := Nat.lt_of_lt_of_le hg (Nat.le_trans HB.out B0.out.size)
    rw [← B0.out.cell (p := ⟨_, _, none⟩) (Nat.lt_of_lt_of_le hg HB.out), ← HB1.out.cell (p := ⟨_, _, none⟩) hgw] at hc0 hc1
    have HX := le_step x.term (leAt x.bterm x.ents k) x.ents k (by omega)
    have HX1 := leAt_succ x.bterm x.ents k
    have hds := HF.out _ (getD_mem x.ents k (by omega))
    unfold maxLen at hds
    have hdi : ((x.ents.getD k default).data.size : Int) ≤ 9223372036854775807 := by omega
    have HXX : Hid (entsAll x = (decide (leAt x.bterm x.ents k ≤ (x.ents.getD k default).term) && decide ((x.ents.getD k default).term ≤ x.term) && decide ((x.ents.getD k default).data.size ≤ 900) && leOk x.term (x.ents.getD k default).term (x.ents.drop (k + 1)))) := HR.out.trans HX
    have HXS : Hid (leAt x.bterm x.ents (k + 1) = (x.ents.getD k default).term) := HX1
    have HBF : Hid (Below w.heap.size w (wr.alloc (.cells #[.int .i64 (x.ents.getD k default).term, .string (x.ents.getD k default).data] 61))) := (B0.out.trans (HB1.out.mono B0.out.size)).alloc (Nat.le_trans B0.out.size HB1.out.size) _
    have HBG : Hid (Below W.heap.size W (wr.alloc (.cells #[.int .i64 (x.ents.getD k default).term, .string (x.ents.getD k default).data] 61))) := HB1.out.alloc HB1.out.size _
    clear HX HX1 HR hds
    generalize leAt x.bterm x.ents k = la at *
    generalize x.ents.getD k default = y at *
    obtain ⟨yt, yd⟩ := y
    simp only at hc0 hc1 HXX HXS HBF HBG hdi
    have hw0 : w.heap.size < wr.heap.size := Nat.lt_of_lt_of_le K0.out.lt hsz
    have hgr : g < wr.heap.size := Nat.lt_of_lt_of_le hgw hsz
    by_cases h8 : la ≤ yt
    rotate_left
    ·rw [decide_eq_false h8] at HXX
     have h8' : yt < la := by omega
     clear h8
     have HXX : Hid (entsAll x = false) := by unfold Hid; rw [HXX.out]; simp
     go_wp2_with fail
     go_ret
     exact ⟨by rw [HXX.out]; rfl, HBF.out⟩
    rw [decide_eq_true h8] at HXX
    by_cases h9 : yt ≤ x.term
    rotate_left
    ·rw [decide_eq_false h9] at HXX
     have h9' : x.term < yt := by omega
     clear h9
     have HXX : Hid (entsAll x = false) := by unfold Hid; rw [HXX.out]; simp
     go_wp2_with fail
     go_ret
     exact ⟨by rw [HXX.out]; rfl, HBF.out⟩
    rw [decide_eq_true h9] at HXX
    by_cases hz : (yd.size : Int) ≤ 900
    rotate_left
    ·rw [decide_eq_false (show ¬ yd.size ≤ 900 by omega)] at HXX
     have hz' : 900 < (yd.size : Int) := by omega
     clear hz
     have HXX : Hid (entsAll x = false) := by unfold Hid; rw [HXX.out]; simp
     go_wp2_with fail
     go_ret
     exact ⟨by rw [HXX.out]; rfl, HBF.out⟩
    rw [decide_eq_true (show yd.size ≤ 900 by omega)] at HXX
    have HXX : Hid (entsAll x = leOk x.term yt (x.ents.drop (k + 1))) := by unfold Hid; rw [HXX.out]; simp
    go_wp2_with fail
    go_roundw
    case rel => exact ⟨k + 1, by omega, by go_num, by rw [HXS.out], by rw [HXS.out]; exact HXX, HBG.out⟩
    case measure => simp [intOf]; omega
   ·obtain rfl : k = n := by omega
    have HXX : Hid (entsAll x = true) := by
     unfold Hid
     rw [HR.out, ← hN, List.drop_length]
     rfl
    clear HR
    generalize leAt x.bterm x.ents k = la at *
    go_wp2_with fail
    go_ret
    exact ⟨by rw [HXX.out]; rfl, B0.out.trans (HB1.out.mono B0.out.size)⟩
theorem below_alloc3' (w : World) (a b c : Obj) : Below w.heap.size w (((w.alloc a).alloc b).alloc c) := (((Below.refl _ w).alloc (Nat.le_refl _) a).alloc (by simp) b).alloc (by simp; omega) c
theorem recOk_hard (t v : Int) : recOk ⟨1, t, 0, v, ⟨#[]⟩⟩ = (inIt t 0 100000 && inIt v (-1) 4) := by
 show (inIt t 0 100000 && inIt v (-1) 4 && decide ((0 : Int) = 0) && decide ((⟨#[]⟩ : ByteArray) = ByteArray.empty)) = _
 rw [decide_eq_true (show (0 : Int) = 0 from rfl), decide_eq_true (show (⟨#[]⟩ : ByteArray) = ByteArray.empty from rfl), Bool.and_true, Bool.and_true]
theorem recOk_base (i t : Int) : recOk ⟨4, t, i, 0, ⟨#[]⟩⟩ = based i t := by
 show (based i t && decide ((0 : Int) = 0) && decide ((⟨#[]⟩ : ByteArray) = ByteArray.empty)) = _
 rw [decide_eq_true (show (0 : Int) = 0 from rfl), decide_eq_true (show (⟨#[]⟩ : ByteArray) = ByteArray.empty from rfl), Bool.and_true, Bool.and_true]
set_option maxHeartbeats 2000000 in
theorem implWalOk (x : Wl) (v : Value) (w : World) (B : Nat) (hv : WalV w B v x) (hf : FitsW x) (hB : B ≤ w.heap.size) : Calls Tryd.prog 13 #[v] w fun e w' => e = .returned (.bool (walOk x)) ∧ Below w.heap.size w w' := by
 obtain ⟨u, rfl, hl⟩ := hv
 have HL : Hid (Lies w B 2 u (entR x.ents)) := hl
 have HF : Hid (FitsW x) := hf
 have HB : Hid (B ≤ w.heap.size) := hB
 have HE : Hid (walOk x = ((inIt x.term 0 100000 && inIt x.vote (-1) 4) && based x.base x.bterm && decide (x.bterm ≤ x.term) && entsAll x)) := by
  unfold Hid walOk entsAll
  simp only [Bool.and_assoc]
 have a1 := fun wx => implRecOk ⟨1, x.term, 0, x.vote, ⟨#[]⟩⟩ wx (by show (0 : Nat) ≤ _; exact Nat.zero_le _)
 have a2 := fun wx => implRecOk ⟨4, x.bterm, x.base, 0, ⟨#[]⟩⟩ wx (by show (0 : Nat) ≤ _; exact Nat.zero_le _)
 rw [recOk_hard] at a1
 rw [recOk_base] at a2
 unfold vRcd at a1 a2
 simp only at a1 a2
 clear hl hf hB
 cases h1 : (inIt x.term 0 100000 && inIt x.vote (-1) 4) <;> rw [h1] at a1 HE
 ·clear h1
  go_enter Tryd.func13, Tryd.ntmps13
  go_wp2_with fail
  have B0 := below_alloc3' w (.cells #[.int .i64 x.term, .int .i64 x.vote, .int .i64 x.base, .int .i64 x.bterm, u] 26) (.cells #[.int .i64 1, .int .i64 x.term, .int .i64 0, .int .i64 x.vote, .string ⟨#[]⟩] 55) (.cells #[.int .i64 4, .int .i64 x.bterm, .int .i64 x.base, .int .i64 0, .string ⟨#[]⟩] 55)
  have k0 := ((Blk.new w #[.int .i64 x.term, .int .i64 x.vote, .int .i64 x.base, .int .i64 x.bterm, u] 26).alloc (.cells #[.int .i64 1, .int .i64 x.term, .int .i64 0, .int .i64 x.vote, .string ⟨#[]⟩] 55)).alloc (.cells #[.int .i64 4, .int .i64 x.bterm, .int .i64 x.base, .int .i64 0, .string ⟨#[]⟩] 55)
  have k2 := Blk.new ((w.alloc (.cells #[.int .i64 x.term, .int .i64 x.vote, .int .i64 x.base, .int .i64 x.bterm, u] 26)).alloc (.cells #[.int .i64 1, .int .i64 x.term, .int .i64 0, .int .i64 x.vote, .string ⟨#[]⟩] 55)) #[.int .i64 4, .int .i64 x.bterm, .int .i64 x.base, .int .i64 0, .string ⟨#[]⟩] 55
  simp only [World.size_alloc] at k2
  generalize ((w.alloc (.cells #[.int .i64 x.term, .int .i64 x.vote, .int .i64 x.base, .int .i64 x.bterm, u] 26)).alloc (.cells #[.int .i64 1, .int .i64 x.term, .int .i64 0, .int .i64 x.vote, .string ⟨#[]⟩] 55)).alloc (.cells #[.int .i64 4, .int .i64 x.bterm, .int .i64 x.base, .int .i64 0, .string ⟨#[]⟩] 55) = W at *
  refine (a1 W).mono ?_
  rintro e w1 ⟨rfl, hb1⟩
  have B1 : Hid (Below w.heap.size w w1) := B0.trans (hb1.mono B0.size)
  clear B0 hb1 k0 k2
  go_wp2_with fail
  go_ret
  exact ⟨by rw [HE.out]; rfl, B1.out⟩
 clear h1
 cases h3 : based x.base x.bterm <;> rw [h3] at a2 HE
 ·clear h3
  go_enter Tryd.func13, Tryd.ntmps13
  go_wp2_with fail
  have B0 := below_alloc3' w (.cells #[.int .i64 x.term, .int .i64 x.vote, .int .i64 x.base, .int .i64 x.bterm, u] 26) (.cells #[.int .i64 1, .int .i64 x.term, .int .i64 0, .int .i64 x.vote, .string ⟨#[]⟩] 55) (.cells #[.int .i64 4, .int .i64 x.bterm, .int .i64 x.base, .int .i64 0, .string ⟨#[]⟩] 55)
  have k0 := ((Blk.new w #[.int .i64 x.term, .int .i64 x.vote, .int .i64 x.base, .int .i64 x.bterm, u] 26).alloc (.cells #[.int .i64 1, .int .i64 x.term, .int .i64 0, .int .i64 x.vote, .string ⟨#[]⟩] 55)).alloc (.cells #[.int .i64 4, .int .i64 x.bterm, .int .i64 x.base, .int .i64 0, .string ⟨#[]⟩] 55)
  have k2 := Blk.new ((w.alloc (.cells #[.int .i64 x.term, .int .i64 x.vote, .int .i64 x.base, .int .i64 x.bterm, u] 26)).alloc (.cells #[.int .i64 1, .int .i64 x.term, .int .i64 0, .int .i64 x.vote, .string ⟨#[]⟩] 55)) #[.int .i64 4, .int .i64 x.bterm, .int .i64 x.base, .int .i64 0, .string ⟨#[]⟩] 55
  simp only [World.size_alloc] at k2
  generalize ((w.alloc (.cells #[.int .i64 x.term, .int .i64 x.vote, .int .i64 x.base, .int .i64 x.bterm, u] 26)).alloc (.cells #[.int .i64 1, .int .i64 x.term, .int .i64 0, .int .i64 x.vote, .string ⟨#[]⟩] 55)).alloc (.cells #[.int .i64 4, .int .i64 x.bterm, .int .i64 x.base, .int .i64 0, .string ⟨#[]⟩] 55) = W at *
  refine (a1 W).mono ?_
  rintro e w1 ⟨rfl, hb1⟩
  have B1 : Hid (Below w.heap.size w w1) := B0.trans (hb1.mono B0.size)
  have K1 : Hid (Blk w1 w.heap.size #[.int .i64 x.term, .int .i64 x.vote, .int .i64 x.base, .int .i64 x.bterm, u] 26) := k0.on hb1 k0.lt
  have l2 := k2.on hb1 k2.lt
  have e0 := l2.cell 0 (.int .i64 4) rfl
  have e1 := l2.cell 1 (.int .i64 x.bterm) rfl
  have e2 := l2.cell 2 (.int .i64 x.base) rfl
  have e3 := l2.cell 3 (.int .i64 0) rfl
  have e4 := l2.cell 4 (.string ⟨#[]⟩) rfl
  clear B0 hb1 k0 k2 l2
  go_wp2_with fail
  refine (a2 w1).mono ?_
  rintro e w2 ⟨rfl, hb2⟩
  have B2 : Hid (Below w.heap.size w w2) := B1.out.trans (hb2.mono B1.out.size)
  have k2 := K1.out.on hb2 K1.out.lt
  clear e0 e1 e2 e3 e4 hb2
  have e0 := k2.cell 0 (.int .i64 x.term) rfl
  have e1 := k2.cell 1 (.int .i64 x.vote) rfl
  have e2 := k2.cell 2 (.int .i64 x.base) rfl
  have e3 := k2.cell 3 (.int .i64 x.bterm) rfl
  have e4 := k2.cell 4 (u) rfl
  clear k2
  go_wp2_with fail
  go_ret
  exact ⟨by rw [HE.out]; rfl, B2.out⟩
 obtain ⟨⟨b1, b2⟩, _⟩ := based_in _ _ h3
 clear h3
 by_cases h4 : x.bterm ≤ x.term
 rotate_left
 ·rw [decide_eq_false h4] at HE
  have h4' : x.term < x.bterm := by omega
  have z4 : decide (x.bterm ≤ x.term) = false := decide_eq_false h4
  clear h4
  go_enter Tryd.func13, Tryd.ntmps13
  go_wp2_with fail
  have B0 := below_alloc3' w (.cells #[.int .i64 x.term, .int .i64 x.vote, .int .i64 x.base, .int .i64 x.bterm, u] 26) (.cells #[.int .i64 1, .int .i64 x.term, .int .i64 0, .int .i64 x.vote, .string ⟨#[]⟩] 55) (.cells #[.int .i64 4, .int .i64 x.bterm, .int .i64 x.base, .int .i64 0, .string ⟨#[]⟩] 55)
  have k0 := ((Blk.new w #[.int .i64 x.term, .int .i64 x.vote, .int .i64 x.base, .int .i64 x.bterm, u] 26).alloc (.cells #[.int .i64 1, .int .i64 x.term, .int .i64 0, .int .i64 x.vote, .string ⟨#[]⟩] 55)).alloc (.cells #[.int .i64 4, .int .i64 x.bterm, .int .i64 x.base, .int .i64 0, .string ⟨#[]⟩] 55)
  have k2 := Blk.new ((w.alloc (.cells #[.int .i64 x.term, .int .i64 x.vote, .int .i64 x.base, .int .i64 x.bterm, u] 26)).alloc (.cells #[.int .i64 1, .int .i64 x.term, .int .i64 0, .int .i64 x.vote, .string ⟨#[]⟩] 55)) #[.int .i64 4, .int .i64 x.bterm, .int .i64 x.base, .int .i64 0, .string ⟨#[]⟩] 55
  simp only [World.size_alloc] at k2
  generalize ((w.alloc (.cells #[.int .i64 x.term, .int .i64 x.vote, .int .i64 x.base, .int .i64 x.bterm, u] 26)).alloc (.cells #[.int .i64 1, .int .i64 x.term, .int .i64 0, .int .i64 x.vote, .string ⟨#[]⟩] 55)).alloc (.cells #[.int .i64 4, .int .i64 x.bterm, .int .i64 x.base, .int .i64 0, .string ⟨#[]⟩] 55) = W at *
  refine (a1 W).mono ?_
  rintro e w1 ⟨rfl, hb1⟩
  have B1 : Hid (Below w.heap.size w w1) := B0.trans (hb1.mono B0.size)
  have K1 : Hid (Blk w1 w.heap.size #[.int .i64 x.term, .int .i64 x.vote, .int .i64 x.base, .int .i64 x.bterm, u] 26) := k0.on hb1 k0.lt
  have l2 := k2.on hb1 k2.lt
  have e0 := l2.cell 0 (.int .i64 4) rfl
  have e1 := l2.cell 1 (.int .i64 x.bterm) rfl
  have e2 := l2.cell 2 (.int .i64 x.base) rfl
  have e3 := l2.cell 3 (.int .i64 0) rfl
  have e4 := l2.cell 4 (.string ⟨#[]⟩) rfl
  clear B0 hb1 k0 k2 l2
  go_wp2_with fail
  refine (a2 w1).mono ?_
  rintro e w2 ⟨rfl, hb2⟩
  have B2 : Hid (Below w.heap.size w w2) := B1.out.trans (hb2.mono B1.out.size)
  have k2 := K1.out.on hb2 K1.out.lt
  clear e0 e1 e2 e3 e4 hb2
  have e0 := k2.cell 0 (.int .i64 x.term) rfl
  have e1 := k2.cell 1 (.int .i64 x.vote) rfl
  have e2 := k2.cell 2 (.int .i64 x.base) rfl
  have e3 := k2.cell 3 (.int .i64 x.bterm) rfl
  have e4 := k2.cell 4 (u) rfl
  clear k2
  go_wp2_with fail
  go_ret
  exact ⟨by rw [HE.out]; rfl, B2.out⟩
 rw [decide_eq_true h4] at HE
 go_enter Tryd.func13, Tryd.ntmps13
 go_wp2_with fail
 have B0 := below_alloc3' w (.cells #[.int .i64 x.term, .int .i64 x.vote, .int .i64 x.base, .int .i64 x.bterm, u] 26) (.cells #[.int .i64 1, .int .i64 x.term, .int .i64 0, .int .i64 x.vote, .string ⟨#[]⟩] 55) (.cells #[.int .i64 4, .int .i64 x.bterm, .int .i64 x.base, .int .i64 0, .string ⟨#[]⟩] 55)
 have k0 := ((Blk.new w #[.int .i64 x.term, .int .i64 x.vote, .int .i64 x.base, .int .i64 x.bterm, u] 26).alloc (.cells #[.int .i64 1, .int .i64 x.term, .int .i64 0, .int .i64 x.vote, .string ⟨#[]⟩] 55)).alloc (.cells #[.int .i64 4, .int .i64 x.bterm, .int .i64 x.base, .int .i64 0, .string ⟨#[]⟩] 55)
 have k2 := Blk.new ((w.alloc (.cells #[.int .i64 x.term, .int .i64 x.vote, .int .i64 x.base, .int .i64 x.bterm, u] 26)).alloc (.cells #[.int .i64 1, .int .i64 x.term, .int .i64 0, .int .i64 x.vote, .string ⟨#[]⟩] 55)) #[.int .i64 4, .int .i64 x.bterm, .int .i64 x.base, .int .i64 0, .string ⟨#[]⟩] 55
 simp only [World.size_alloc] at k2
 generalize ((w.alloc (.cells #[.int .i64 x.term, .int .i64 x.vote, .int .i64 x.base, .int .i64 x.bterm, u] 26)).alloc (.cells #[.int .i64 1, .int .i64 x.term, .int .i64 0, .int .i64 x.vote, .string ⟨#[]⟩] 55)).alloc (.cells #[.int .i64 4, .int .i64 x.bterm, .int .i64 x.base, .int .i64 0, .string ⟨#[]⟩] 55) = W at *
 refine (a1 W).mono ?_
 rintro e w1 ⟨rfl, hb1⟩
 have B1 : Hid (Below w.heap.size w w1) := B0.trans (hb1.mono B0.size)
 have K1 : Hid (Blk w1 w.heap.size #[.int .i64 x.term, .int .i64 x.vote, .int .i64 x.base, .int .i64 x.bterm, u] 26) := k0.on hb1 k0.lt
 have l2 := k2.on hb1 k2.lt
 have e0 := l2.cell 0 (.int .i64 4) rfl
 have e1 := l2.cell 1 (.int .i64 x.bterm) rfl
 have e2 := l2.cell 2 (.int .i64 x.base) rfl
 have e3 := l2.cell 3 (.int .i64 0) rfl
 have e4 := l2.cell 4 (.string ⟨#[]⟩) rfl
 clear B0 hb1 k0 k2 l2
 go_wp2_with fail
 refine (a2 w1).mono ?_
 rintro e w2 ⟨rfl, hb2⟩
 have B2 : Hid (Below w.heap.size w w2) := B1.out.trans (hb2.mono B1.out.size)
 have k2 := K1.out.on hb2 K1.out.lt
 clear e0 e1 e2 e3 e4 hb2
 have e0 := k2.cell 0 (.int .i64 x.term) rfl
 have e1 := k2.cell 1 (.int .i64 x.vote) rfl
 have e2 := k2.cell 2 (.int .i64 x.base) rfl
 have e3 := k2.cell 3 (.int .i64 x.bterm) rfl
 have e4 := k2.cell 4 (u) rfl
 clear k2
 go_wp2_with fail
 refine (entriesOkV x (.agg #[.int .i64 x.term, .int .i64 x.vote, .int .i64 x.base, .int .i64 x.bterm, u]) w2 B ⟨u, rfl, HL.out.on (B2.out.mono HB.out)⟩ HF.out (Nat.le_trans HB.out B2.out.size) b1 b2).mono ?_
 rintro e w3 ⟨rfl, hb3⟩
 have B3 : Hid (Below w.heap.size w w3) := B2.out.trans (hb3.mono B2.out.size)
 clear hb3
 have HE : Hid (walOk x = entsAll x) := by unfold Hid; rw [HE.out]; simp
 generalize entsAll x = z at *
 go_wp2_with fail
 go_ret
 exact ⟨by rw [HE.out]; first | rfl | simp, B3.out⟩
end Go.Proofs.YtgillglkmnocaaaDoor
namespace Go.Proofs.YtgillglkmnocaaaDoor
open Go.ChangeShapes Go.WideShapes Go.ChangeAt Go.RowKit Go.PlainAid
set_option linter.unusedVariables false
def stepR (x : Wl) (r : Rcd) : Wl × Bool := if (recOk r && recFits x r) = true then (stepTo x r, true) else (x, false)
theorem steppedV (x : Wl) (r : Rcd) (v : Value) (w : World) (base : Nat) (hv : WalO w base v x) (hn : x.ents.length ≤ 60) (hb1 : 0 ≤ x.base) (hb2 : x.base ≤ 100000) (hB : base ≤ w.heap.size) (hd : r.data.size ≤ 1048576) :
  Calls Tryd.prog 24 #[v, recV r] w fun e w' => ∃ u b, e = .returned (.tuple #[u, .bool b]) ∧ (WalO w' base u (stepR x r).1 ∧ b = (stepR x r).2) ∧ Below base w w' := by
 cases ho : recOk r
 ·have h1 : recV r = .nilIface := by unfold recV; rw [ho]; rfl
  have h2 : stepR x r = (x, false) := by unfold stepR; rw [ho]; rfl
  rw [h1, h2]
  exact stepped_nil x v w base hv hn hb1 hb2 hB
 ·have h1 : recV r = kindV r := by unfold recV; rw [if_pos ho]
  have h2 : stepR x r = if recFits x r = true then (stepTo x r, true) else (x, false) := by unfold stepR; rw [ho, Bool.true_and]
  rw [h1, h2]
  obtain ⟨k, t, i, vo, d⟩ := r
  rcases rest0_of k t i vo d ho with ⟨rfl, _, _⟩ | ⟨rfl, _⟩ | ⟨rfl, _, _, _⟩ | ⟨rfl, _, _⟩
  ·exact stepped_hard t i vo d x v w base hv hn hb1 hb2 hB
  ·exact stepped_entry t i vo d x v w base hv hn hb1 hb2 hB hd
  ·exact stepped_cut t i vo d x v w base hv hn hb1 hb2 hB
  ·have h3 : recFits x ⟨4, t, i, vo, d⟩ = false := by unfold recFits; simp
   rw [h3, if_neg Bool.false_ne_true]
   exact stepped_base _ x v w base hv hn hb1 hb2 hB
end Go.Proofs.YtgillglkmnocaaaDoor
namespace Go.Proofs.YtgillglkmnocaaaDoor
set_option linter.unusedVariables false
def lastOf (last : Int) (l : List Ent) : Int := match l.getLast? with | some e => e.term | none => last
theorem lastOf_cons (last : Int) (e : Ent) (l : List Ent) : lastOf last (e :: l) = lastOf e.term l := by
 unfold lastOf
 rw [List.getLast?_cons]
 cases l.getLast? <;> rfl
theorem ents_take (top : Int) : ∀ (l : List Ent) (last : Int) (k : Nat), entsOk top last l = true → entsOk top last (l.take k) = true
 | [], _, k, h => by simpa using h
 | e :: r, last, 0, h => rfl
 | e :: r, last, k + 1, h => by
  rw [List.take_succ_cons]
  unfold entsOk at h ⊢
  simp only [Bool.and_eq_true] at h ⊢
  exact ⟨h.1, ents_take top r _ k h.2⟩
theorem ents_top (top top' : Int) (ht : top ≤ top') : ∀ (l : List Ent) (last : Int), entsOk top last l = true → entsOk top' last l = true
 | [], _, h => rfl
 | e :: r, last, h => by
  unfold entsOk at h ⊢
  simp only [Bool.and_eq_true, decide_eq_true_eq] at h ⊢
  exact ⟨⟨⟨h.1.1.1, by omega⟩, h.1.2⟩, ents_top top top' ht r _ h.2⟩
theorem ents_at (top : Int) : ∀ (l : List Ent) (last : Int) (k : Nat), entsOk top last l = true → k < l.length →
  1 ≤ (l.getD k default).term ∧ (l.getD k default).term ≤ top ∧ (l.getD k default).data.size ≤ 900 ∧ lastOf last (l.take k) ≤ (l.getD k default).term
 | [], _, k, h, hk => by simp at hk
 | e :: r, last, 0, h, hk => by
  unfold entsOk at h
  simp only [Bool.and_eq_true, decide_eq_true_eq] at h
  exact ⟨h.1.1.1.1, h.1.1.2, h.1.2, h.1.1.1.2⟩
 | e :: r, last, k + 1, h, hk => by
  unfold entsOk at h
  simp only [Bool.and_eq_true, decide_eq_true_eq] at h
  rw [List.take_succ_cons, lastOf_cons]
  exact ents_at top r e.term k h.2 (by simpa using hk)
structure WOk (x : Wl) : Prop where
 t0 : 0 ≤ x.term
 t1 : x.term ≤ 100000
 v0 : -1 ≤ x.vote
 v1 : x.vote ≤ 4
 b : based x.base x.bterm = true
 bt : x.bterm ≤ x.term
 n : x.ents.length ≤ 60
 s : x.base + x.ents.length ≤ 100000
 e : entsOk x.term x.bterm x.ents = true
theorem wOk_of {x : Wl} (h : walOk x = true) : WOk x := by
 unfold walOk inIt at h
 simp only [Bool.and_eq_true, decide_eq_true_eq] at h
 obtain ⟨⟨⟨⟨⟨⟨h1, h2⟩, h3⟩, h4⟩, h5⟩, h6⟩, h7⟩ := h
 exact ⟨h1.1, h1.2, h2.1, h2.2, h3, h4, h5, h6, h7⟩
theorem WOk.ok {x : Wl} (h : WOk x) : walOk x = true := by
 unfold walOk inIt
 simp only [Bool.and_eq_true, decide_eq_true_eq]
 exact ⟨⟨⟨⟨⟨⟨⟨h.t0, h.t1⟩, ⟨h.v0, h.v1⟩⟩, h.b⟩, h.bt⟩, h.n⟩, h.s⟩, h.e⟩
theorem based0 {i t : Int} (h : based i t = true) : 0 ≤ i := by
 unfold based inIt at h
 split at h
 ·omega
 ·simp only [Bool.and_eq_true, decide_eq_true_eq] at h
  omega
theorem WOk.take {x : Wl} (h : WOk x) (k : Nat) : WOk { x with ents := x.ents.take k } :=
 ⟨h.t0, h.t1, h.v0, h.v1, h.b, h.bt, by show (x.ents.take k).length ≤ 60; rw [List.length_take]; have := h.n; omega, by show x.base + ((x.ents.take k).length : Int) ≤ 100000; rw [List.length_take]; have := h.s; omega, ents_take _ _ _ _ h.e⟩
theorem ents_snoc (top : Int) (e : Ent) (h1 : 1 ≤ e.term) (h2 : e.term ≤ top) (h3 : e.data.size ≤ 900) : ∀ (l : List Ent) (last : Int), entsOk top last l = true → lastOf last l ≤ e.term → entsOk top last (l ++ [e]) = true
 | [], last, h, hl => by
  have hl' : last ≤ e.term := hl
  show entsOk top last [e] = true
  unfold entsOk entsOk
  simp only [Bool.and_eq_true, decide_eq_true_eq]
  exact ⟨⟨⟨⟨h1, hl'⟩, h2⟩, h3⟩, trivial⟩
 | y :: r, last, h, hl => by
  rw [lastOf_cons] at hl
  show entsOk top last (y :: (r ++ [e])) = true
  unfold entsOk at h ⊢
  simp only [Bool.and_eq_true] at h ⊢
  exact ⟨h.1, ents_snoc top e h1 h2 h3 r _ h.2 hl⟩
theorem step_ok (x : Wl) (r : Rcd) (h : walOk x = true) (hr : recOk r = true) (hf : recFits x r = true) : walOk (stepTo x r) = true := by
 have w := wOk_of h
 unfold recFits at hf
 unfold recOk inIt at hr
 unfold stepTo
 split at hf
 ·rename_i hk
  rw [if_pos hk] at hr ⊢
  simp only [Bool.or_eq_true, Bool.and_eq_true, decide_eq_true_eq] at hf hr
  have ht : x.term ≤ r.term := by omega
  have := w.bt
  exact WOk.ok ⟨hr.1.1.1.1, hr.1.1.1.2, hr.1.1.2.1, hr.1.1.2.2, w.b, by show x.bterm ≤ r.term; omega, w.n, w.s, ents_top _ _ ht _ _ w.e⟩
 ·rename_i hk1
  rw [if_neg hk1] at hr ⊢
  split at hf
  ·rename_i hk
   rw [if_pos hk] at hr ⊢
   simp only [Bool.and_eq_true, decide_eq_true_eq] at hf hr
   obtain ⟨⟨⟨f1, f2⟩, f3⟩, f4⟩ := hf
   obtain ⟨⟨⟨r1, r2⟩, r3⟩, r4⟩ := hr
   refine WOk.ok ⟨w.t0, w.t1, w.v0, w.v1, w.b, w.bt, ?_, ?_, ?_⟩
   ·show (x.ents ++ [_]).length ≤ 60
    rw [List.length_append]
    simp only [List.length_cons, List.length_nil]
    omega
   ·show x.base + ((x.ents ++ [_]).length : Int) ≤ 100000
    rw [List.length_append]
    simp only [List.length_cons, List.length_nil]
    omega
   ·exact ents_snoc _ _ r1.1 f4 r4 _ _ w.e f3
  ·rename_i hk2
   rw [if_neg hk2]
   exact (w.take _).ok
theorem recOk_data (r : Rcd) (h : recOk r = true) : r.data.size ≤ 900 := by
 have z : ByteArray.empty.size = 0 := rfl
 unfold recOk at h
 split at h
 ·simp only [Bool.and_eq_true, decide_eq_true_eq] at h
  rw [h.2, z]
  omega
 split at h
 ·simp only [Bool.and_eq_true, decide_eq_true_eq] at h
  exact h.2
 split at h
 ·simp only [Bool.and_eq_true, decide_eq_true_eq] at h
  rw [h.2, z]
  omega
 split at h
 ·simp only [Bool.and_eq_true, decide_eq_true_eq] at h
  rw [h.2, z]
  omega
 ·cases h
def begW (q : Rcd) : Wl := ⟨q.term, -1, q.index, q.term, []⟩
theorem beg_ok (q : Rcd) (h : recOk q = true) (hk : q.kind = 4) : walOk (begW q) = true := by
 unfold recOk at h
 rw [if_neg (by omega), if_neg (by omega), if_neg (by omega), if_pos hk] at h
 simp only [Bool.and_eq_true] at h
 have hb := h.1.1
 have h0 : 0 ≤ q.term ∧ q.term ≤ 100000 ∧ q.index ≤ 100000 := by
  unfold based inIt at hb
  split at hb
  ·have := of_decide_eq_true hb
   omega
  ·simp only [Bool.and_eq_true, decide_eq_true_eq] at hb
   omega
 exact WOk.ok ⟨h0.1, h0.2.1, by show (-1 : Int) ≤ -1; omega, by show (-1 : Int) ≤ 4; omega, hb, Int.le_refl _, Nat.zero_le _, by show q.index + ((0 : Nat) : Int) ≤ 100000; omega, rfl⟩
end Go.Proofs.YtgillglkmnocaaaDoor
namespace Go.Proofs.YtgillglkmnocaaaDoor
open Go.RowKit Go.PlainAid
def strCells (l : List ByteArray) : List Value := l.map Value.string
def Strs (w : World) (base : Nat) (v : Value) (l : List ByteArray) : Prop := w.ownsRow base 9 1 v l.length (strCells l)
theorem Strs.nil (w : World) (base : Nat) : Strs w base (.slice none 0 0) [] := World.ownsRow_nil w base 9 1
theorem Strs.empty (w : World) (base : Nat) (hb : base ≤ w.heap.size) : Strs (w.alloc (.cells #[] 9)) base (.slice (some ⟨w.heap.size, 0, none⟩) 0 0) [] :=
 World.ownsRow_lit w #[] 0 hb (by unfold maxLen; omega) rfl
theorem Strs.mono {w : World} {base base' : Nat} {v : Value} {l : List ByteArray} (h : Strs w base v l) (hb : base' ≤ base) : Strs w base' v l :=
 ⟨h.1, h.2.imp id fun ⟨g, cap, cur, e, hg, r⟩ => ⟨g, cap, cur, e, Nat.le_trans hb hg, r⟩⟩
theorem Strs.kept {w w' : World} {base : Nat} {v : Value} {l : List ByteArray} (h : Strs w base v l) (hk : ∀ g, g < w.heap.size → v.ownBlock = some g → w'.heap[g]? = w.heap[g]?) : Strs w' base v l := by
 have hl := World.ownsRow.lt h
 refine ⟨h.1, h.2.imp id ?_⟩
 rintro ⟨g, cap, cur, rfl, hg, hh, r⟩
 refine ⟨g, cap, cur, rfl, hg, ?_, r⟩
 rw [hk g (hl g rfl).2 rfl]
 exact hh
theorem Strs.on {w w' : World} {base : Nat} {v : Value} {l : List ByteArray} (h : Strs w base v l) (hb : Below w.heap.size w w') : Strs w' base v l := h.kept fun g hg _ => hb.block g hg
theorem Strs.alloc {w : World} {base : Nat} {v : Value} {l : List ByteArray} (h : Strs w base v l) (o : Obj) : Strs (w.alloc o) base v l := World.ownsRow.alloc h o
theorem Strs.form {w : World} {base : Nat} {v : Value} {l : List ByteArray} (h : Strs w base v l) : (v = .slice none 0 0 ∧ l = []) ∨ ∃ g cap, v = .slice (some ⟨g, 0, none⟩) l.length cap ∧ base ≤ g ∧ g < w.heap.size := by
 have hl := World.ownsRow.lt h
 rcases h.2 with ⟨rfl, h0⟩ | ⟨g, cap, cur, rfl, hg, _⟩
 ·exact .inl ⟨rfl, List.eq_nil_of_length_eq_zero h0⟩
 ·exact .inr ⟨g, cap, rfl, hg, (hl g rfl).2⟩
theorem Strs.cell {w : World} {base g cap : Nat} {l : List ByteArray} (h : Strs w base (.slice (some ⟨g, 0, none⟩) l.length cap) l) (j : Nat) (hj : j < l.length) : w.cell? ⟨g, j, none⟩ = some (.string l[j]) := by
 rw [World.ownsRow.cellAt h j (by omega)]
 simp [strCells, hj]
theorem wpList_append_str {P : Program} {w : World} {ops : Array Oper} {rest : List Oper} {o : Oper} {a : Act} {Q : Exit → Act → World → Prop} (hgd : o.guard = none) (s x : Operand) (t : TypeId)
  (ho : o.op = .call { callee := .builtin .append, args := #[s, x], argTypes := #[t, t] })
  (ht : P.underlying t = some (.slice 9)) (hinfo : (P.info? 9).map (fun i => (i.zero, i.size, i.bytes)) = some (some (.string ⟨#[]⟩), 1, 16))
  (base : Nat) (v : Value) (l : List ByteArray) (hs : a.eval s = v) (hown : Strs w base v l) (b : ByteArray)
  (hx : a.eval x = .slice (some ⟨w.heap.size, 0, none⟩) 1 1) (hlen : l.length ≤ 2097152) (hbase : base ≤ w.heap.size)
  (h : ∀ v' w', Strs w' base v' (l ++ [b]) → Below base w w' → wpList P ops Q rest (a.put o.dst v') w') : wpList P ops Q (o :: rest) a (w.alloc (.cells #[.string b] 9)) := by
 obtain ⟨i0, hi, hz0, hz1, hz2⟩ := info_parts hinfo
 refine wpList_append_own (w := w.alloc (.cells #[.string b] 9)) hgd s x t ho base 9 i0 (.string ⟨#[]⟩) 1 16 ht hi hz0 hz1 hz2 rfl (by decide) v l.length (strCells l) hs (hown.alloc _) ⟨w.heap.size, 0, none⟩ 1 1 [.string b] hx rfl ?_ ?_ ?_ ?_ ?_ ?_
 ·intro j u hj
  have e : (⟨w.heap.size, 0, none⟩ : Addr).add j = ⟨w.heap.size, j, none⟩ := by cases j <;> simp [Addr.add]
  rw [e, World.cell?_alloc_mark]
  simpa using hj
 ·intro u hu
  simp at hu
  subst hu
  rfl
 ·unfold maxLen; omega
 ·omega
 ·simp; omega
 ·intro v' w' h1 h2 _
  have hb0 : ∀ k, v.ownBlock = some k → base ≤ k := fun k hk => (World.ownsRow.lt hown k hk).1
  refine h v' w' ?_ ?_
  ·unfold Strs
   rw [List.length_append, strCells, List.map_append]
   exact h1
  ·exact ((Below.refl base w).alloc hbase _).grown h2 (by simp; omega) hb0
end Go.Proofs.YtgillglkmnocaaaDoor
namespace Go.Proofs.YtgillglkmnocaaaDoor
open Go.ChangeShapes Go.WideShapes Go.ChangeAt Go.RowKit Go.PlainAid
set_option linter.unusedVariables false
noncomputable def rd (s : ByteArray) : Option Rcd := Classical.choose (readA_has s)
theorem rd_is (s : ByteArray) : ReadA s (rd s) := Classical.choose_spec (readA_has s)
theorem rd_ok {s : ByteArray} {q : Rcd} (h : rd s = some q) : recOk q = true := by
 rcases rd_is s with ⟨_, e⟩ | ⟨s1, s2, s3, s4, k1, k2, k3, _, e⟩
 ·rw [h] at e
  cases e
 ·rw [h] at e
  split at e
  ·rename_i ho
   cases e
   exact ho
  ·cases e
noncomputable def stp (x : Wl) (s : ByteArray) : Wl × Bool :=
 match rd s with
 | some q => if recFits x q = true then (stepTo x q, true) else (x, false)
 | none => (x, false)
theorem stp_ok (x : Wl) (s : ByteArray) (h : walOk x = true) : walOk (stp x s).1 = true := by
 unfold stp
 cases hr : rd s with
 | none => exact h
 | some q =>
  simp only
  split
  ·rename_i hf
   exact step_ok x q h (rd_ok hr) hf
  ·exact h
noncomputable def beg (s : ByteArray) : Option Wl :=
 match rd s with
 | some q => if q.kind = 4 then some (begW q) else none
 | none => none
theorem beg_some {s : ByteArray} {x : Wl} (h : beg s = some x) : walOk x = true := by
 unfold beg at h
 cases hr : rd s with
 | none => rw [hr] at h; cases h
 | some q =>
  rw [hr] at h
  simp only at h
  split at h
  ·rename_i hk
   cases h
   exact beg_ok q (rd_ok hr) hk
  ·cases h
noncomputable def goOn : Wl → List ByteArray → Wl × Nat
 | x, [] => (x, 0)
 | x, s :: r => if (stp x s).2 = true then ((goOn (stp x s).1 r).1, 8 + s.size + (goOn (stp x s).1 r).2) else (x, 0)
noncomputable def rep : List ByteArray → Wl × Nat × Bool
 | [] => (wal0, 0, false)
 | s :: r => match beg s with
  | some x => ((goOn x r).1, 8 + s.size + (goOn x r).2, true)
  | none => (wal0, 0, false)
theorem goOn_no (x : Wl) (s : ByteArray) (r : List ByteArray) (h : (stp x s).2 = false) : goOn x (s :: r) = (x, 0) := by
 unfold goOn
 rw [h]
 rfl
theorem goOn_yes (x : Wl) (s : ByteArray) (r : List ByteArray) (h : (stp x s).2 = true) : goOn x (s :: r) = ((goOn (stp x s).1 r).1, 8 + s.size + (goOn (stp x s).1 r).2) := by
 rw [goOn, if_pos h]
structure OnWay (bs : List ByteArray) (i : Nat) (x : Wl) (n : Nat) : Prop where
 ok : walOk x = true
 lw : (goOn x (bs.drop i)).1 = (rep bs).1
 ln : n + (goOn x (bs.drop i)).2 = (rep bs).2.1
 b : (rep bs).2.2 = true
 le : n ≤ i * 1048584
theorem OnWay.begin {s : ByteArray} {r : List ByteArray} {x : Wl} (h : beg s = some x) (hs : s.size ≤ 1048576) : OnWay (s :: r) 1 x (8 + s.size) := by
 have e : rep (s :: r) = ((goOn x r).1, 8 + s.size + (goOn x r).2, true) := by rw [rep, h]
 exact ⟨beg_some h, by rw [e]; rfl, by rw [e]; rfl, by rw [e], by omega⟩
theorem drop_body (l : List ByteArray) (i : Nat) (h : i < l.length) : l.drop i = l.getD i default :: l.drop (i + 1) := by
 rw [List.drop_eq_getElem_cons h, List.getD_eq_getElem?_getD, List.getElem?_eq_getElem h]
 rfl
theorem OnWay.next {bs : List ByteArray} {i : Nat} {x : Wl} {n : Nat} (h : OnWay bs i x n) (hi : i < bs.length) (hs : (bs.getD i default).size ≤ 1048576) (hf : (stp x (bs.getD i default)).2 = true) : OnWay bs (i + 1) (stp x (bs.getD i default)).1 (n + (8 + (bs.getD i default).size)) := by
 have e := goOn_yes x (bs.getD i default) (bs.drop (i + 1)) hf
 rw [← drop_body bs i hi] at e
 have hw := h.lw
 have hn := h.ln
 rw [e] at hw hn
 exact ⟨stp_ok x _ h.ok, hw, by simp only at hn; omega, h.b, by have := h.le; omega⟩
theorem OnWay.stop {bs : List ByteArray} {i : Nat} {x : Wl} {n : Nat} (h : OnWay bs i x n) (hi : i < bs.length) (hf : (stp x (bs.getD i default)).2 = false) : rep bs = (x, n, true) := by
 have e := goOn_no x (bs.getD i default) (bs.drop (i + 1)) hf
 rw [← drop_body bs i hi] at e
 have hw := h.lw
 have hn := h.ln
 have hb := h.b
 rw [e] at hw hn
 simp only at hw hn
 generalize rep bs = z at *
 obtain ⟨z1, z2, z3⟩ := z
 simp only at hw hn hb
 subst hw
 subst hb
 rw [← hn, Nat.add_zero]
theorem OnWay.done {bs : List ByteArray} {i : Nat} {x : Wl} {n : Nat} (h : OnWay bs i x n) (hi : bs.length ≤ i) : rep bs = (x, n, true) := by
 have hw := h.lw
 have hn := h.ln
 have hb := h.b
 rw [List.drop_of_length_le hi] at hw hn
 simp only [goOn] at hw hn
 generalize rep bs = z at *
 obtain ⟨z1, z2, z3⟩ := z
 simp only at hw hn hb
 subst hw
 subst hb
 rw [← hn, Nat.add_zero]
theorem rep_none {s : ByteArray} {r : List ByteArray} (h : beg s = none) : rep (s :: r) = (wal0, 0, false) := by rw [rep, h]
theorem bods_size (s : ByteArray) (k : Nat) : ∀ x ∈ bods s k, x.size ≤ s.size := by
 induction k with
 | zero => intro x hx; cases hx
 | succ k ih =>
  intro x hx
  rw [bods_succ, List.mem_append] at hx
  rcases hx with hx | hx
  ·exact ih x hx
  ·rw [List.mem_singleton.1 hx, bodyOf, ByteArray.size_extract, rest_size]
   omega
theorem strs_look {w : World} {base : Nat} {v : Value} {l : List ByteArray} (h : Strs w base v l) : ∃ A cap, v = .slice A l.length cap ∧ ∀ j, j < l.length → ∃ g, A = some ⟨g, 0, none⟩ ∧ g < w.heap.size ∧ base ≤ g ∧ w.cell? ⟨g, j, none⟩ = some (.string (l.getD j default)) := by
 rcases h.form with ⟨rfl, rfl⟩ | ⟨g, cap, rfl, hb, hl⟩
 ·exact ⟨none, 0, rfl, fun j hj => by simp at hj⟩
 ·refine ⟨_, cap, rfl, fun j hj => ⟨g, rfl, hl, hb, ?_⟩⟩
  rw [h.cell j hj, List.getD_eq_getElem?_getD, List.getElem?_eq_getElem hj]
  rfl
theorem readRecA (s : ByteArray) (hs : s.size ≤ 1048576) : ∃ q : Rcd, q.data.size ≤ 1048576 ∧ rd s = (if recOk q = true then some q else none) ∧ ∀ w, Calls Tryd.prog 23 #[.string s] w fun e w' => e = .returned (recV q) ∧ Below w.heap.size w w' := by
 have z : recOk ⟨0, 0, 0, 0, ByteArray.empty⟩ = false := by decide
 have z1 : recV ⟨0, 0, 0, 0, ByteArray.empty⟩ = .nilIface := by unfold recV; rw [z]; rfl
 rcases rd_is s with ⟨hn, e⟩ | ⟨s1, s2, s3, s4, k1, k2, k3, hp, e⟩
 ·refine ⟨⟨0, 0, 0, 0, ByteArray.empty⟩, Nat.zero_le _, by rw [e, z]; rfl, fun w => ?_⟩
  rw [z1]
  exact readRecordV s w hs hn
 ·have c := fun w => readRecord_yes s s1 s2 s3 s4 k1 k2 k3 w hs hp
  cases ho : recOk (partsR s s1 s2 s3 s4 k1 k2 k3)
  ·have z2 : recV (partsR s s1 s2 s3 s4 k1 k2 k3) = .nilIface := by unfold recV; rw [ho]; rfl
   refine ⟨⟨0, 0, 0, 0, ByteArray.empty⟩, Nat.zero_le _, by rw [e, ho, z]; rfl, fun w => ?_⟩
   rw [z1, ← z2]
   exact c w
  ·exact ⟨_, Nat.le_trans (recOk_data _ ho) (by omega), by rw [e, ho], c⟩
theorem stepR_stp {q : Rcd} {s : ByteArray} (h : rd s = if recOk q = true then some q else none) (x : Wl) : stepR x q = stp x s := by
 unfold stepR stp
 cases ho : recOk q
 ·rw [ho] at h
  rw [h]
  rfl
 ·rw [ho] at h
  rw [h]
  rw [Bool.true_and]
  rfl
theorem beg_rec {q : Rcd} {s : ByteArray} (h : rd s = if recOk q = true then some q else none) : beg s = if recOk q = true ∧ q.kind = 4 then some (begW q) else none := by
 unfold beg
 cases ho : recOk q
 ·rw [ho] at h
  rw [h]
  rfl
 ·rw [ho] at h
  rw [h]
  by_cases hk : q.kind = 4
  ·simp [hk]
  ·simp [hk]
end Go.Proofs.YtgillglkmnocaaaDoor
namespace Go.Proofs.YtgillglkmnocaaaDoor
open Go.ChangeShapes Go.WideShapes Go.ChangeAt Go.RowKit Go.PlainAid
set_option linter.unusedVariables false
def recAt (x : Wl) (i : Nat) : Rcd := ⟨2, (x.ents.getD i default).term, x.base + 1 + (i : Int), 0, (x.ents.getD i default).data⟩
def entRecs (x : Wl) (k : Nat) : List Rcd := (List.range k).map (recAt x)
theorem entRecs_succ (x : Wl) (k : Nat) : entRecs x (k + 1) = entRecs x k ++ [recAt x k] := by simp [entRecs, List.range_succ]
theorem entRecs_length (x : Wl) (k : Nat) : (entRecs x k).length = k := by simp [entRecs]
def kindR (l : List Rcd) : List (List Value) := l.map fun r => [kindV r]
theorem kindR_append (a b : List Rcd) : kindR (a ++ b) = kindR a ++ kindR b := by simp [kindR]
theorem kindR_length (l : List Rcd) : (kindR l).length = l.length := by simp [kindR]
theorem kindV_at (x : Wl) (i : Nat) : kindV (recAt x i) = .iface 77 (.agg #[.int .i64 (x.base + 1 + (i : Int)), .int .i64 (x.ents.getD i default).term, .string (x.ents.getD i default).data]) := by
 unfold kindV recAt
 simp
theorem Tryd.infoRec : (Tryd.prog.info? 47).map (fun i => (i.zero, i.size, i.bytes)) = some (some .nilIface, 1, 16) := by kernel_rfl
set_option maxRecDepth 20000 in
set_option maxHeartbeats 4000000 in
theorem entriesV (x : Wl) (v : Value) (w : World) (B : Nat) (hv : WalV w B v x) (hn : x.ents.length ≤ 60) (hb0 : 0 ≤ x.base) (hb1 : x.base ≤ 100000) (hB : B ≤ w.heap.size) :
  Calls Tryd.prog 14 #[v, .int .i64 0] w fun e w' => ∃ u, e = .returned u ∧ Owns w' w.heap.size 47 1 u (kindR (entRecs x x.ents.length)) ∧ Below w.heap.size w w' := by
 obtain ⟨u, rfl, hl⟩ := hv
 obtain ⟨A, cap, rfl, hlk⟩ := ent_look hl
 have HCAP : Hid (x.ents.length ≤ cap) := by
  obtain ⟨A', cap', e, ⟨_, h2⟩, _⟩ := hl
  injection e with _ e2 e3
  unfold Hid
  rw [e3, e2]
  exact h2
 have HL : Hid (∀ j, j < x.ents.length → ∃ g off, A = some ⟨g, off, none⟩ ∧ g < B ∧ _) := hlk
 have HB : Hid (B ≤ w.heap.size) := hB
 have q1 : (x.ents.length : Int) ≤ 60 := by omega
 have q1c : (x.ents.length : Int) ≤ (cap : Int) := by have := HCAP.out; omega
 clear hl hlk hB hn
 generalize hN : x.ents.length = n at *
 go_enter Tryd.func14, Tryd.ntmps14
 go_wp2_with fail
 have h0 : Below w.heap.size w (w.alloc (.cells #[.int .i64 x.term, .int .i64 x.vote, .int .i64 x.base, .int .i64 x.bterm, .slice A n cap] 26)) := (Below.refl _ w).alloc (Nat.le_refl _) _
 have bA := Blk.new w #[.int .i64 x.term, .int .i64 x.vote, .int .i64 x.base, .int .i64 x.bterm, .slice A n cap] 26
 generalize w.alloc (.cells #[.int .i64 x.term, .int .i64 x.vote, .int .i64 x.base, .int .i64 x.bterm, .slice A n cap] 26) = W at *
 go_loopw [5, 13] (fun v5 v13 wr => ∃ k : Nat, k ≤ n ∧ v13 = .int .i64 (k : Int) ∧ Owns wr (w.heap.size + 1) 47 1 v5 (kindR (entRecs x k)) ∧ Below w.heap.size w wr ∧ Blk wr w.heap.size #[.int .i64 x.term, .int .i64 x.vote, .int .i64 x.base, .int .i64 x.bterm, .slice A n cap] 26) (fun _ i _ => n - (intOf i).toNat)
 case atStart => exact ⟨0, by omega, rfl, Owns.nil _ _ _ _, h0, bA⟩
 case round =>
  obtain ⟨k, hk, rfl, hO, hb, hbl⟩ := hrel
  have HO : Hid (Owns wr (w.heap.size + 1) 47 1 _ (kindR (entRecs x k))) := hO
  have HB1 : Hid (Below w.heap.size w wr) := hb
  have KA : Hid (Blk wr w.heap.size #[.int .i64 x.term, .int .i64 x.vote, .int .i64 x.base, .int .i64 x.bterm, .slice A n cap] 26) := hbl
  obtain ⟨sA, sm, sc, rfl⟩ := hO.shape
  clear hO hb hbl h0 bA
  by_cases hlt : k < n
  ·have q4 : (k : Int) < (n : Int) := by omega
   obtain ⟨g, off, rfl, hg, hc0, hc1⟩ := HL.out k (by omega)
   have hgw : g < w.heap.size := Nat.lt_of_lt_of_le hg HB.out
   rw [← HB1.out.cell (p := ⟨_, _, none⟩) hgw] at hc0 hc1
   have hkv := kindV_at x k
   have HR : Hid (kindR (entRecs x k) ++ [[kindV (recAt x k)]] = kindR (entRecs x (k + 1))) := by unfold Hid; rw [entRecs_succ, kindR_append]; rfl
   have HLN : Hid ((kindR (entRecs x k)).length ≤ 2097152) := by unfold Hid; rw [kindR_length, entRecs_length]; omega
   generalize x.ents.getD k default = y at *
   obtain ⟨yt, yd⟩ := y
   simp only at hc0 hc1 hkv
   have z1 : wrap64 (x.base + 0) = x.base := by unfold wrap64; omega
   have z2 : wrap64 (x.base + (k : Int)) = x.base + (k : Int) := by unfold wrap64; omega
   have z3 : wrap64 (x.base + (k : Int) + 1) = x.base + (k : Int) + 1 := by unfold wrap64; omega
   have z4 : wrap64 x.base = x.base := by unfold wrap64; omega
   have hkv2 : Hid (.iface 77 (.agg #[.int .i64 (x.base + (k : Int) + 1), .int .i64 yt, .string yd]) = kindV (recAt x k)) := by unfold Hid; rw [hkv, show x.base + (k : Int) + 1 = x.base + 1 + (k : Int) by omega]
   have kE := Blk.new wr #[.int .i64 yt, .string yd] 61
   have kW := KA.out.alloc (.cells #[.int .i64 yt, .string yd] 61)
   have e0 := kE.cell 0 (.int .i64 yt) rfl
   have e1 := kE.cell 1 (.string yd) rfl
   have e2 := kW.cell 2 (.int .i64 x.base) rfl
   have hos := HO.out.alloc (.cells #[.int .i64 yt, .string yd] 61)
   have hW1 : Below w.heap.size w (wr.alloc (.cells #[.int .i64 yt, .string yd] 61)) := HB1.out.alloc HB1.out.size _
   have hsz : w.heap.size + 1 ≤ (wr.alloc (.cells #[.int .i64 yt, .string yd] 61)).heap.size := kW.lt
   clear hkv kE
   go_wp2_with (at_builtin; refine wpList_append_row rfl (.tmp 18) (.tmp 29) 41 47 .nilIface 1 16 rfl Tryd.underlying41 Tryd.infoRec rfl (by omega) (w.heap.size + 1) _ (kindR (entRecs x k)) rfl hos [.iface 77 (.agg #[.int .i64 (x.base + (k : Int) + 1), .int .i64 yt, .string yd])] rfl (by intro y hy; simp at hy; subst hy; rfl) (by rw [World.size_alloc]; rfl) HLN.out (by omega) hsz ?_; intro v' w4 hO4 hb4 hk4 _)
   rw [hkv2.out, HR.out] at hO4
   have kW4 := kW.on hb4 (by omega)
   have hB4 : Below w.heap.size w w4 := hW1.trans (hb4.mono (by omega))
   go_roundw
   case rel => exact ⟨k + 1, by omega, by go_num, hO4, hB4, kW4⟩
   case measure => simp [intOf]; omega
  ·obtain rfl : k = n := by omega
   go_wp2_with fail
   go_ret
   exact ⟨_, rfl, HO.out.mono (by omega), HB1.out⟩
end Go.Proofs.YtgillglkmnocaaaDoor
namespace Go.Proofs.YtgillglkmnocaaaDoor
open Go.Shelf Go.RowKit
set_option linter.unusedVariables false
def bldRen : Go.Shelf.Ren := ⟨fun | 166 => 15 | 169 => 18 | 240 => 31 | 276 => 46 | f => f, fun | 20 => 20 | 37 => 22 | 70 => 42 | 72 => 44 | 75 => 49 | 80 => 57 | 127 => 81 | 164 => 95 | t => t, fun g => g⟩
theorem bld_lays166 : Go.Proofs.Lays.n166 Tryd.prog bldRen where
 mixed := by kernel_rfl
 f166 := Tryd.func15.trans (congrArg some (by kernel_rfl))
 f240 := Tryd.func31.trans (congrArg some (by kernel_rfl))
 f276 := Tryd.func46.trans (congrArg some (by kernel_rfl))
 t0 := Tryd.underlying0
 a0 := Tryd.isAgg0
 z0 := Tryd.sizeOf0
 v0 := Tryd.zeroValue0
 t3 := Tryd.underlying3
 a3 := Tryd.isAgg3
 z3 := Tryd.sizeOf3
 v3 := Tryd.zeroValue3
 t4 := Tryd.underlying4
 a4 := Tryd.isAgg4
 z4 := Tryd.sizeOf4
 v4 := Tryd.zeroValue4
 t9 := Tryd.underlying9
 a9 := Tryd.isAgg9
 z9 := Tryd.sizeOf9
 v9 := Tryd.zeroValue9
 t20 := Tryd.underlying20
 a20 := Tryd.isAgg20
 z20 := Tryd.sizeOf20
 v20 := Tryd.zeroValue20
 t37 := Tryd.underlying22
 a37 := Tryd.isAgg22
 z37 := Tryd.sizeOf22
 v37 := Tryd.zeroValue22
 t70 := Tryd.underlying42
 a70 := Tryd.isAgg42
 z70 := Tryd.sizeOf42
 v70 := Tryd.zeroValue42
 t72 := Tryd.underlying44
 a72 := Tryd.isAgg44
 z72 := Tryd.sizeOf44
 v72 := Tryd.zeroValue44
 t75 := Tryd.underlying49
 a75 := Tryd.isAgg49
 z75 := Tryd.sizeOf49
 v75 := Tryd.zeroValue49
 t164 := Tryd.underlying95
 a164 := Tryd.isAgg95
 z164 := Tryd.sizeOf95
 v164 := Tryd.zeroValue95
theorem bld_lays169 : Go.Proofs.Lays.n169 Tryd.prog bldRen where
 mixed := by kernel_rfl
 f169 := Tryd.func18.trans (congrArg some (by kernel_rfl))
 t0 := Tryd.underlying0
 a0 := Tryd.isAgg0
 z0 := Tryd.sizeOf0
 v0 := Tryd.zeroValue0
 t3 := Tryd.underlying3
 a3 := Tryd.isAgg3
 z3 := Tryd.sizeOf3
 v3 := Tryd.zeroValue3
 t9 := Tryd.underlying9
 a9 := Tryd.isAgg9
 z9 := Tryd.sizeOf9
 v9 := Tryd.zeroValue9
 t37 := Tryd.underlying22
 a37 := Tryd.isAgg22
 z37 := Tryd.sizeOf22
 v37 := Tryd.zeroValue22
 t70 := Tryd.underlying42
 a70 := Tryd.isAgg42
 z70 := Tryd.sizeOf42
 v70 := Tryd.zeroValue42
 t72 := Tryd.underlying44
 a72 := Tryd.isAgg44
 z72 := Tryd.sizeOf44
 v72 := Tryd.zeroValue44
 t127 := Tryd.underlying81
 a127 := Tryd.isAgg81
 z127 := Tryd.sizeOf81
 v127 := Tryd.zeroValue81
theorem bld_extra : Go.Proofs.Builder.Extra Tryd.prog bldRen where
 sizeBuilder := by kernel_rfl
 liesBuilder := by kernel_rfl
 t5 := Tryd.underlying5
 a5 := Tryd.isAgg5
 z5 := Tryd.sizeOf5
 v5 := Tryd.zeroValue5
 infoByte := by kernel_rfl
 cellsByte := by kernel_rfl
 sizeByte := by kernel_rfl
 neB5 := by decide
theorem bldWrite (B b : Nat) (bs : List Value) (s : ByteArray) (w : World) (h : Lib.IsBuilderF 44 5 B b bs w) (hlen : bs.length + s.size ≤ 140737488355328) (hBw : B ≤ w.heap.size) :
  Calls Tryd.prog 15 #[.pointer (some ⟨b, 0, none⟩), .string s] w fun e w' => e = .returned (.tuple #[.int .i64 s.size, .nilIface]) ∧ (Lib.BuilderAtF 44 5 B b (.pointer (some ⟨b, 0, none⟩)) (bs ++ Lib.strCells s) w' ∧ Below B w w' ∧ Lib.OthersKept 5 (some b) w w') := Any.Builder_WriteString_k bld_lays166 bld_extra B b bs s w h hlen hBw
theorem bldString (B b : Nat) (l : List UInt8) (w : World) (h : Lib.IsBuilderF 44 5 B b (Lib.byteCells l) w) (hBw : B ≤ w.heap.size) :
  Calls Tryd.prog 18 #[.pointer (some ⟨b, 0, none⟩)] w fun e w' => e = .returned (.string ⟨l.toArray⟩) ∧ (Lib.IsBuilderF 44 5 B b (Lib.byteCells l) w' ∧ Below B w w' ∧ Lib.OthersKept 5 (some b) w w') := Any.Builder_String_any_k bld_lays169 bld_extra B b l w h hBw
end Go.Proofs.YtgillglkmnocaaaDoor
namespace Go.Proofs.YtgillglkmnocaaaDoor
open Go.ChangeShapes Go.WideShapes Go.ChangeAt Go.RowKit Go.PlainAid
set_option linter.unusedVariables false
def catF (l : List Rcd) : ByteArray := l.foldl (fun s r => s ++ frame (showR r)) ByteArray.empty
theorem catF_snoc (l : List Rcd) (r : Rcd) : catF (l ++ [r]) = catF l ++ frame (showR r) := by simp [catF, List.foldl_append]
theorem frame_size (b : ByteArray) : (frame b).size ≤ 2008 := by
 unfold frame
 split
 ·rw [txt_size]
  exact Nat.zero_le _
 ·rw [frameOf_size]
  omega
theorem catF_size (l : List Rcd) : (catF l).size ≤ 2008 * l.length := by
 have key : ∀ (l : List Rcd) (s : ByteArray), (l.foldl (fun s r => s ++ frame (showR r)) s).size ≤ s.size + 2008 * l.length := by
  intro l
  induction l with
  | nil => intro s; simp
  | cons r l ih =>
   intro s
   have h1 := ih (s ++ frame (showR r))
   have h2 := frame_size (showR r)
   rw [ByteArray.size_append] at h1
   simp only [List.foldl_cons, List.length_cons]
   omega
 have := key l ByteArray.empty
 have z : ByteArray.empty.size = 0 := rfl
 unfold catF
 omega
def walRecs (x : Wl) : List Rcd := [⟨4, x.bterm, x.base, 0, ByteArray.empty⟩, ⟨1, x.term, 0, x.vote, ByteArray.empty⟩] ++ entRecs x x.ents.length
def walT (x : Wl) : ByteArray := if walOk x = true then catF (walRecs x) else ⟨#[]⟩
theorem walRecs_length (x : Wl) : (walRecs x).length = x.ents.length + 2 := by simp [walRecs, entRecs_length]
theorem entsOk_data (top : Int) : ∀ (l : List Ent) (last : Int), entsOk top last l = true → ∀ e ∈ l, e.data.size ≤ 900
 | [], _, _, e, he => by cases he
 | y :: r, last, h, e, he => by
  unfold entsOk at h
  simp only [Bool.and_eq_true, decide_eq_true_eq] at h
  rcases List.mem_cons.1 he with rfl | he
  ·exact h.1.2
  ·exact entsOk_data top r _ h.2 e he
theorem ok_in (x : Wl) (h : walOk x = true) : x.ents.length ≤ 60 ∧ (0 ≤ x.base ∧ x.base ≤ 100000) ∧ ∀ e ∈ x.ents, e.data.size ≤ 900 := by
 unfold walOk at h
 simp only [Bool.and_eq_true] at h
 obtain ⟨⟨⟨⟨⟨⟨_, _⟩, h3⟩, _⟩, h5⟩, _⟩, h7⟩ := h
 refine ⟨of_decide_eq_true h5, ?_, entsOk_data _ _ _ h7⟩
 unfold based at h3
 split at h3
 ·omega
 ·simp only [Bool.and_eq_true, inIt, decide_eq_true_eq] at h3
  omega
theorem showR_size (r : Rcd) (h : r.data.size ≤ 900) : (showR r).size ≤ 1000 := by
 unfold showR
 split
 ·unfold showB
  have h1 := vsize r.term.toNat
  have h2 := vsize r.index.toNat
  have h3 := vsize (r.vote + 1).toNat
  simp only [ByteArray.size_append, txt_size] at *
  simp
  omega
 ·exact Nat.zero_le _
structure LogRec (r : Rcd) : Prop where
 k : (r.kind = 4 ∧ r.vote = 0 ∧ r.data = ⟨#[]⟩) ∨ (r.kind = 1 ∧ r.index = 0 ∧ r.data = ⟨#[]⟩) ∨ (r.kind = 2 ∧ r.vote = 0)
 d : r.data.size ≤ 900
theorem walRecs_log (x : Wl) (hd : ∀ e ∈ x.ents, e.data.size ≤ 900) : ∀ r ∈ walRecs x, LogRec r := by
 intro r hr
 unfold walRecs at hr
 simp only [List.mem_append, List.mem_cons, List.not_mem_nil, or_false] at hr
 rcases hr with (rfl | rfl) | hr
 ·exact ⟨.inl ⟨rfl, rfl, rfl⟩, Nat.zero_le _⟩
 ·exact ⟨.inr (.inl ⟨rfl, rfl, rfl⟩), Nat.zero_le _⟩
 ·unfold entRecs at hr
  obtain ⟨i, hi, rfl⟩ := List.mem_map.1 hr
  refine ⟨.inr (.inr ⟨rfl, rfl⟩), ?_⟩
  have hi' : i < x.ents.length := by simpa using hi
  show (x.ents.getD i default).data.size ≤ 900
  rw [List.getD_eq_getElem?_getD, List.getElem?_eq_getElem hi']
  exact hd _ (List.getElem_mem hi')
theorem kindR_flat (l : List Rcd) : (kindR l).flatten = l.map kindV := by
 induction l with
 | nil => rfl
 | cons r l ih => rw [kindR, List.map_cons, List.flatten_cons, List.map_cons]; rw [kindR] at ih; rw [ih]; rfl
theorem kind_look {w : World} {base : Nat} {v : Value} {l : List Rcd} (h : Owns w base 47 1 v (kindR l)) : ∃ A cap, v = .slice A l.length cap ∧ ∀ j, j < l.length → ∃ g, A = some ⟨g, 0, none⟩ ∧ w.cell? ⟨g, j, none⟩ = some (kindV (l.getD j ⟨0, 0, 0, 0, ByteArray.empty⟩)) := by
 have hc := fun g hg => World.ownsRow.cells h.2 (g := g) hg
 have hl := kindR_length l
 rcases h.2.2 with ⟨rfl, h0⟩ | ⟨g, cap, cur, rfl, _⟩
 ·rw [hl] at h0
  exact ⟨none, 0, by rw [h0], fun j hj => by omega⟩
 ·refine ⟨_, cap, by rw [hl], fun j hj => ⟨g, rfl, ?_⟩⟩
  have e : (⟨g, 0, none⟩ : Addr).add j = ⟨g, j, none⟩ := by cases j <;> simp [Addr.add]
  rw [← e]
  refine hc g rfl j _ ?_
  rw [kindR_flat, List.getElem?_map, List.getElem?_eq_getElem hj, List.getD_eq_getElem?_getD, List.getElem?_eq_getElem hj]
  rfl
theorem Owns.two (w : World) (a b : Value) : Owns (w.alloc (.cells #[a, b] 47)) w.heap.size 47 1 (.slice (some ⟨w.heap.size, 0, none⟩) 2 2) [[a], [b]] :=
 ⟨fun r hr => by simp at hr; rcases hr with rfl | rfl <;> rfl, World.ownsRow_lit w #[a, b] 2 (Nat.le_refl _) (by unfold maxLen; omega) (by simp)⟩
theorem strCells_append (a b : ByteArray) : Lib.strCells (a ++ b) = Lib.strCells a ++ Lib.strCells b := by simp [Lib.strCells, ByteArray.data_append]
theorem bld_on {w w' : World} {B b : Nat} {bs : List Value} (h : Lib.IsBuilderF 44 5 B b bs w) (hb : Below w.heap.size w w') : Lib.IsBuilderF 44 5 B b bs w' := by
 have key : ∀ p, Lib.BuilderAtF 44 5 B b p bs w → Lib.BuilderAtF 44 5 B b p bs w' := by
  rintro p ⟨hB, v, hh, hown, hne⟩
  refine ⟨hB, v, by rw [hb.block b (lt_of_block hh)]; exact hh, ⟨hown.1, ?_⟩, hne⟩
  rcases hown.2 with h | ⟨g, cap, cur, fz, rfl, hbg, hg, rest⟩
  ·exact .inl h
  ·refine .inr ⟨g, cap, cur, fz, rfl, hbg, ?_, rest⟩
   rw [hb.block g (Array.getElem?_eq_some_iff.1 hg).1]
   exact hg
 exact h.imp (key _) (key _)
theorem bld_new {w : World} {b : Nat} (h : Blk w b #[.pointer none, .slice none 0 0] 44) : Lib.IsBuilderF 44 5 b b (Lib.strCells ByteArray.empty) w :=
 .inl ⟨Nat.le_refl _, .slice none 0 0, h, ⟨rfl, .inl ⟨rfl, rfl⟩⟩, fun e => by cases e⟩
theorem Owns.others {w w' : World} {base b : Nat} {v : Value} {rows : List (List Value)} (h : Owns w base 47 1 v rows) (hk : Lib.OthersKept 5 (some b) w w') (hb : v.ownBlock ≠ some b) : Owns w' base 47 1 v rows :=
 h.kept fun g hg ho => by
  obtain ⟨c, fz, e1⟩ := Lib.ownsRow_kind h.2 g ho
  rw [hk g _ e1 (fun e => hb (by rw [ho]; exact e)) (fun c fz e => by cases e), e1]
end Go.Proofs.YtgillglkmnocaaaDoor
