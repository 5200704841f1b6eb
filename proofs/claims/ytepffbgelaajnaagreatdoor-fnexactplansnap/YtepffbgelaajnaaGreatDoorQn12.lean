/- WokSpec WokImpl NumD Until -/
import Derived.Test.YtepffbgelaajnaaGreatDoorRows
import Derived.Test.YtepffbgelaajnaaGreatDoorQn11
import Derived.Test.YtepffbgelaajnaaGreatDoorQn1
import Derived.Test.YtepffbgelaajnaaGreatDoorQn9
import Derived.Test.YtepffbgelaajnaaGreatDoorQn0
import Derived.WalkKit
import Derived.ProofKit
import Derived.OpenShut
import Derived.Below
import Derived.Handy
import Derived.WalkLawsBesides
import Derived.WalkSpells
import Derived.WalkMore
import Derived.Outline
import Derived.Deep.OwnRows
import Derived.Deep.RegionHeld3
import Derived.Deep.RegionLaw
import Derived.Deep.DrawnRows
import Derived.WalkSmall
import Derived.StillTail
namespace Go.Proofs.YtepffbgelaajnaaGreatDoor
open Go.ChangeShapes Go.WideShapes Go.ChangeAt Go.RowKit Go.PlainAid
set_option linter.unusedVariables false
theorem based_in (i t : Int) (h : based i t = true) : (0 ≤ i ∧ i ≤ 100000) ∧ 0 ≤ t ∧ t ≤ 100000 := by
 unfold based inIt at h
 split at h
 ·have := of_decide_eq_true h
  omega
 ·simp at h
  omega
theorem inIt_in (x lo hi : Int) (h : inIt x lo hi = true) : lo ≤ x ∧ x ≤ hi := by
 unfold inIt at h
 simpa using h
def lastAt (bt : Int) (l : List Ent) (k : Nat) : Int := if k = 0 then bt else (l.getD (k - 1) default).term
theorem ents_step (top last : Int) (l : List Ent) (k : Nat) (h : k < l.length) :
  entsOk top last (l.drop k) = (decide (1 ≤ (l.getD k default).term) && decide (last ≤ (l.getD k default).term) && decide ((l.getD k default).term ≤ top) && decide ((l.getD k default).data.size ≤ 900) && entsOk top (l.getD k default).term (l.drop (k + 1))) := by
 rw [List.drop_eq_getElem_cons h, ← getD_at l k h]
 rfl
theorem lastAt_succ (bt : Int) (l : List Ent) (k : Nat) : lastAt bt l (k + 1) = (l.getD k default).term := rfl
set_option maxHeartbeats 2000000 in
theorem specWalOk (x : Wl) (v : Value) (w : World) (B : Nat) (hv : WalV w B v x) (hf : FitsW x) (hB : B ≤ w.heap.size) : Calls Tryz.prog 27 #[v] w fun e w' => e = .returned (.bool (walOk x)) ∧ Below w.heap.size w w' := by
 obtain ⟨u, rfl, hl⟩ := hv
 obtain ⟨A, cap, rfl, hlk⟩ := ent_look hl
 have HL : Hid (∀ j, j < x.ents.length → ∃ g off, A = some ⟨g, off, none⟩ ∧ g < B ∧ _) := hlk
 have HB : Hid (B ≤ w.heap.size) := hB
 have hn0 := hf.n
 have HF : Hid (∀ e ∈ x.ents, e.data.size ≤ maxLen) := hf.d
 unfold maxLen at hn0
 have q1 : (x.ents.length : Int) ≤ 9223372036854775807 := by omega
 have HE : Hid (walOk x = (inIt x.term 0 100000 && inIt x.vote (-1) 4 && based x.base x.bterm && decide (x.bterm ≤ x.term) && decide (x.ents.length ≤ 60) && decide (x.base + x.ents.length ≤ 100000) && entsOk x.term x.bterm x.ents)) := rfl
 clear hl hlk hB hf hn0
 generalize hN : x.ents.length = n at *
 have B0 : Hid (Below w.heap.size w (w.alloc (.cells #[.int .i64 x.term, .int .i64 x.vote, .int .i64 x.base, .int .i64 x.bterm, .slice A n cap] 42))) := (Below.refl _ _).alloc (Nat.le_refl _) _
 have K0 : Hid (Blk (w.alloc (.cells #[.int .i64 x.term, .int .i64 x.vote, .int .i64 x.base, .int .i64 x.bterm, .slice A n cap] 42)) w.heap.size #[.int .i64 x.term, .int .i64 x.vote, .int .i64 x.base, .int .i64 x.bterm, .slice A n cap] 42) := Blk.new _ _ _
 have a1 := inBW x.term 0 100000
 have a2 := inBW x.vote (-1) 4
 have a3 := basedV x.base x.bterm
 cases h1 : inIt x.term 0 100000 <;> rw [h1] at a1 HE
 ·clear h1
  go_enter Tryz.func27, Tryz.ntmps27
  go_wp2_with fail
  refine (a1 _).mono ?_
  rintro e w' ⟨rfl, rfl⟩
  go_wp2_with fail
  go_ret
  exact ⟨by rw [HE.out]; rfl, B0.out⟩
 cases h2 : inIt x.vote (-1) 4 <;> rw [h2] at a2 HE
 ·clear h1 h2
  go_enter Tryz.func27, Tryz.ntmps27
  go_wp2_with fail
  refine (a1 _).mono ?_
  rintro e w' ⟨rfl, rfl⟩
  go_wp2_with fail
  refine (a2 _).mono ?_
  rintro e w' ⟨rfl, rfl⟩
  go_wp2_with fail
  go_ret
  exact ⟨by rw [HE.out]; rfl, B0.out⟩
 cases h3 : based x.base x.bterm <;> rw [h3] at a3 HE
 ·clear h1 h2 h3
  go_enter Tryz.func27, Tryz.ntmps27
  go_wp2_with fail
  refine (a1 _).mono ?_
  rintro e w' ⟨rfl, rfl⟩
  go_wp2_with fail
  refine (a2 _).mono ?_
  rintro e w' ⟨rfl, rfl⟩
  go_wp2_with fail
  refine (a3 _).mono ?_
  rintro e w' ⟨rfl, rfl⟩
  go_wp2_with fail
  go_ret
  exact ⟨by rw [HE.out]; rfl, B0.out⟩
 obtain ⟨b1, b2⟩ := based_in _ _ h3
 obtain ⟨p1, p2⟩ := inIt_in _ _ _ h1
 clear h1 h2 h3
 by_cases h4 : x.bterm ≤ x.term
 rotate_left
 ·rw [decide_eq_false h4] at HE
  have h4' : x.term < x.bterm := by omega
  clear h4
  go_enter Tryz.func27, Tryz.ntmps27
  go_wp2_with fail
  refine (a1 _).mono ?_
  rintro e w' ⟨rfl, rfl⟩
  go_wp2_with fail
  refine (a2 _).mono ?_
  rintro e w' ⟨rfl, rfl⟩
  go_wp2_with fail
  refine (a3 _).mono ?_
  rintro e w' ⟨rfl, rfl⟩
  go_wp2_with fail
  go_ret
  exact ⟨by rw [HE.out]; rfl, B0.out⟩
 rw [decide_eq_true h4] at HE
 by_cases h5 : n ≤ 60
 rotate_left
 ·rw [decide_eq_false h5] at HE
  have h5' : (60 : Int) < (n : Int) := by omega
  go_enter Tryz.func27, Tryz.ntmps27
  go_wp2_with fail
  refine (a1 _).mono ?_
  rintro e w' ⟨rfl, rfl⟩
  go_wp2_with fail
  refine (a2 _).mono ?_
  rintro e w' ⟨rfl, rfl⟩
  go_wp2_with fail
  refine (a3 _).mono ?_
  rintro e w' ⟨rfl, rfl⟩
  go_wp2_with fail
  go_ret
  exact ⟨by rw [HE.out]; rfl, B0.out⟩
 rw [decide_eq_true h5] at HE
 have h5' : (n : Int) ≤ 60 := by omega
 have hw1 : IntKind.i64.wrap (x.base + (n : Int)) = x.base + (n : Int) := by rw [IntKind.wrap_i64]; omega
 by_cases h6 : x.base + (n : Int) ≤ 100000
 rotate_left
 ·rw [decide_eq_false h6] at HE
  have h6' : (100000 : Int) < x.base + (n : Int) := by omega
  go_enter Tryz.func27, Tryz.ntmps27
  go_wp2_with fail
  refine (a1 _).mono ?_
  rintro e w' ⟨rfl, rfl⟩
  go_wp2_with fail
  refine (a2 _).mono ?_
  rintro e w' ⟨rfl, rfl⟩
  go_wp2_with fail
  refine (a3 _).mono ?_
  rintro e w' ⟨rfl, rfl⟩
  go_wp2_with fail
  go_ret
  exact ⟨by rw [HE.out]; rfl, B0.out⟩
 rw [decide_eq_true h6] at HE
 have HE : Hid (walOk x = entsOk x.term x.bterm x.ents) := by unfold Hid; rw [HE.out]; simp
 go_enter Tryz.func27, Tryz.ntmps27
 go_wp2_with fail
 refine (a1 _).mono ?_
 rintro e w' ⟨rfl, rfl⟩
 go_wp2_with fail
 refine (a2 _).mono ?_
 rintro e w' ⟨rfl, rfl⟩
 go_wp2_with fail
 refine (a3 _).mono ?_
 rintro e w' ⟨rfl, rfl⟩
 go_wp2_with fail
 generalize w.alloc (.cells #[.int .i64 x.term, .int .i64 x.vote, .int .i64 x.base, .int .i64 x.bterm, .slice A n cap] 42) = W at *
 clear a1 a2 a3 b1 b2 hw1 h6
 go_loopw [3, 4] (fun v3 v4 wr => ∃ k : Nat, k ≤ n ∧ v4 = .int .i64 (k : Int) ∧ v3 = .int .i64 (lastAt x.bterm x.ents k) ∧ Hid (walOk x = entsOk x.term (lastAt x.bterm x.ents k) (x.ents.drop k)) ∧ Below W.heap.size W wr) (fun _ i _ => n - (intOf i).toNat)
 case atStart => exact ⟨0, by omega, rfl, rfl, HE, Below.refl _ _⟩
 case round =>
  obtain ⟨k, hk, rfl, rfl, HR, hb⟩ := hrel
  have HB1 : Hid (Below W.heap.size W wr) := hb
  have hlt0 := K0.out.lt
  have c4 := (hb.cell (p := ⟨w.heap.size, 4, none⟩) hlt0).trans (K0.out.cell 4 (.slice A n cap) rfl)
  have c0 := (hb.cell (p := ⟨w.heap.size, 0, none⟩) hlt0).trans (K0.out.cell 0 (.int .i64 x.term) rfl)
  have hsz := hb.size
  clear hb hlt0
  by_cases hlt : k < n
  ·have q4 : (k : Int) < (n : Int) := by omega
   obtain ⟨g, off, rfl, hg, hc0, hc1⟩ := HL.out k (by omega)
   have hgw : g < W.heap.size := Nat.lt_of_lt_of_le hg (Nat.le_trans HB.out B0.out.size)
   have hgB : g < B := hg
   rw [← B0.out.cell (p := ⟨_, _, none⟩) (Nat.lt_of_lt_of_le hg HB.out), ← HB1.out.cell (p := ⟨_, _, none⟩) hgw] at hc0 hc1
   have HX := ents_step x.term (lastAt x.bterm x.ents k) x.ents k (by omega)
   have HX1 := lastAt_succ x.bterm x.ents k
   have hds := HF.out _ (getD_mem x.ents k (by omega))
   unfold maxLen at hds
   have hdi : ((x.ents.getD k default).data.size : Int) ≤ 9223372036854775807 := by omega
   have HXX : Hid (walOk x = (decide (1 ≤ (x.ents.getD k default).term) && decide (lastAt x.bterm x.ents k ≤ (x.ents.getD k default).term) && decide ((x.ents.getD k default).term ≤ x.term) && decide ((x.ents.getD k default).data.size ≤ 900) && entsOk x.term (x.ents.getD k default).term (x.ents.drop (k + 1)))) := HR.out.trans HX
   have HXS : Hid (lastAt x.bterm x.ents (k + 1) = (x.ents.getD k default).term) := HX1
   have HBF : Hid (Below w.heap.size w (wr.alloc (.cells #[.int .i64 (x.ents.getD k default).term, .string (x.ents.getD k default).data] 110))) := (B0.out.trans (HB1.out.mono B0.out.size)).alloc (Nat.le_trans B0.out.size HB1.out.size) _
   have HBG : Hid (Below W.heap.size W (wr.alloc (.cells #[.int .i64 (x.ents.getD k default).term, .string (x.ents.getD k default).data] 110))) := HB1.out.alloc HB1.out.size _
   clear HX HX1 HR hds
   generalize lastAt x.bterm x.ents k = la at *
   generalize x.ents.getD k default = y at *
   obtain ⟨yt, yd⟩ := y
   simp only at hc0 hc1 HXX HXS HBF HBG hdi
   have hw0 : w.heap.size < wr.heap.size := Nat.lt_of_lt_of_le K0.out.lt hsz
   have hgr : g < wr.heap.size := Nat.lt_of_lt_of_le hgw hsz
   by_cases h7 : 1 ≤ yt
   rotate_left
   ·rw [decide_eq_false h7] at HXX
    have h7' : yt < 1 := by omega
    clear h7
    have HXX : Hid (walOk x = false) := by unfold Hid; rw [HXX.out]; simp
    go_wp2_with fail
    go_ret
    exact ⟨by rw [HXX.out]; rfl, HBF.out⟩
   rw [decide_eq_true h7] at HXX
   by_cases h8 : la ≤ yt
   rotate_left
   ·rw [decide_eq_false h8] at HXX
    have h8' : yt < la := by omega
    clear h8
    have HXX : Hid (walOk x = false) := by unfold Hid; rw [HXX.out]; simp
    go_wp2_with fail
    go_ret
    exact ⟨by rw [HXX.out]; rfl, HBF.out⟩
   rw [decide_eq_true h8] at HXX
   by_cases h9 : yt ≤ x.term
   rotate_left
   ·rw [decide_eq_false h9] at HXX
    have h9' : x.term < yt := by omega
    clear h9
    have HXX : Hid (walOk x = false) := by unfold Hid; rw [HXX.out]; simp
    go_wp2_with fail
    go_ret
    exact ⟨by rw [HXX.out]; rfl, HBF.out⟩
   rw [decide_eq_true h9] at HXX
   by_cases hz : (yd.size : Int) ≤ 900
   rotate_left
   ·rw [decide_eq_false (show ¬ yd.size ≤ 900 by omega)] at HXX
    have hz' : 900 < (yd.size : Int) := by omega
    clear hz
    have HXX : Hid (walOk x = false) := by unfold Hid; rw [HXX.out]; simp
    go_wp2_with fail
    go_ret
    exact ⟨by rw [HXX.out]; rfl, HBF.out⟩
   rw [decide_eq_true (show yd.size ≤ 900 by omega)] at HXX
   have HXX : Hid (walOk x = entsOk x.term yt (x.ents.drop (k + 1))) := by unfold Hid; rw [HXX.out]; simp
   go_wp2_with fail
   go_roundw
   case rel => exact ⟨k + 1, by omega, by go_num, by rw [HXS.out], by rw [HXS.out]; exact HXX, HBG.out⟩
   case measure => simp [intOf]; omega
  ·obtain rfl : k = n := by omega
   have HXX : Hid (walOk x = true) := by
    unfold Hid
    rw [HR.out, ← hN, List.drop_length]
    rfl
   clear HR
   generalize lastAt x.bterm x.ents k = la at *
   go_wp2_with fail
   go_ret
   exact ⟨by rw [HXX.out]; rfl, B0.out.trans (HB1.out.mono B0.out.size)⟩
end Go.Proofs.YtepffbgelaajnaaGreatDoor
namespace Go.Proofs.YtepffbgelaajnaaGreatDoor
open Go.ChangeShapes Go.WideShapes Go.ChangeAt Go.RowKit Go.PlainAid
set_option linter.unusedVariables false
def leOk (top : Int) : Int → List Ent → Bool
 | _, [] => true
 | least, e :: r => decide (least ≤ e.term) && decide (e.term ≤ top) && decide (e.data.size ≤ 900) && leOk top e.term r
theorem entsOk_le (top : Int) : ∀ (l : List Ent) (last : Int), entsOk top last l = leOk top (max last 1) l
 | [], _ => rfl
 | e :: r, last => by
  unfold entsOk leOk
  rw [entsOk_le top r e.term]
  by_cases h1 : 1 ≤ e.term
  ·rw [Int.max_eq_left h1, decide_eq_true h1, Bool.true_and]
   congr 3
   rw [decide_eq_decide]
   omega
  ·rw [decide_eq_false h1, decide_eq_false (show ¬ max last 1 ≤ e.term by omega)]
   simp
def leAt (bt : Int) (l : List Ent) (k : Nat) : Int := if k = 0 then max bt 1 else (l.getD (k - 1) default).term
theorem le_step (top last : Int) (l : List Ent) (k : Nat) (h : k < l.length) :
  leOk top last (l.drop k) = (decide (last ≤ (l.getD k default).term) && decide ((l.getD k default).term ≤ top) && decide ((l.getD k default).data.size ≤ 900) && leOk top (l.getD k default).term (l.drop (k + 1))) := by
 rw [List.drop_eq_getElem_cons h, ← getD_at l k h]
 rfl
theorem leAt_succ (bt : Int) (l : List Ent) (k : Nat) : leAt bt l (k + 1) = (l.getD k default).term := rfl
def entsAll (x : Wl) : Bool := decide (x.ents.length ≤ 60) && decide (x.base + x.ents.length ≤ 100000) && entsOk x.term x.bterm x.ents
set_option maxHeartbeats 2000000 in
theorem entriesOkV (x : Wl) (v : Value) (w : World) (B : Nat) (hv : WalV w B v x) (hf : FitsW x) (hB : B ≤ w.heap.size) (hb1 : 0 ≤ x.base) (hb2 : x.base ≤ 100000) : Calls Tryz.prog 76 #[v] w fun e w' => e = .returned (.bool (entsAll x)) ∧ Below w.heap.size w w' := by
 obtain ⟨u, rfl, hl⟩ := hv
 obtain ⟨A, cap, rfl, hlk⟩ := ent_look hl
 have HL : Hid (∀ j, j < x.ents.length → ∃ g off, A = some ⟨g, off, none⟩ ∧ g < B ∧ _) := hlk
 have HB : Hid (B ≤ w.heap.size) := hB
 have hn0 := hf.n
 have HF : Hid (∀ e ∈ x.ents, e.data.size ≤ maxLen) := hf.d
 unfold maxLen at hn0
 have q1 : (x.ents.length : Int) ≤ 9223372036854775807 := by omega
 have HE : Hid (entsAll x = (decide (x.ents.length ≤ 60) && decide (x.base + x.ents.length ≤ 100000) && leOk x.term (max x.bterm 1) x.ents)) := by unfold Hid entsAll; rw [entsOk_le]
 clear hl hlk hB hf hn0
 generalize hN : x.ents.length = n at *
 have B0 : Hid (Below w.heap.size w (w.alloc (.cells #[.int .i64 x.term, .int .i64 x.vote, .int .i64 x.base, .int .i64 x.bterm, .slice A n cap] 42))) := (Below.refl _ _).alloc (Nat.le_refl _) _
 have K0 : Hid (Blk (w.alloc (.cells #[.int .i64 x.term, .int .i64 x.vote, .int .i64 x.base, .int .i64 x.bterm, .slice A n cap] 42)) w.heap.size #[.int .i64 x.term, .int .i64 x.vote, .int .i64 x.base, .int .i64 x.bterm, .slice A n cap] 42) := Blk.new _ _ _
 by_cases h5 : n ≤ 60
 rotate_left
 ·rw [decide_eq_false h5] at HE
  have h5' : (60 : Int) < (n : Int) := by omega
  go_enter Tryz.func76, Tryz.ntmps76
  go_wp2_with fail
  go_ret
  exact ⟨by rw [HE.out]; rfl, B0.out⟩
 rw [decide_eq_true h5] at HE
 have h5' : (n : Int) ≤ 60 := by omega
 have hw1 : IntKind.i64.wrap (x.base + (n : Int)) = x.base + (n : Int) := by rw [IntKind.wrap_i64]; omega
 by_cases h6 : x.base + (n : Int) ≤ 100000
 rotate_left
 ·rw [decide_eq_false h6] at HE
  have h6' : (100000 : Int) < x.base + (n : Int) := by omega
  go_enter Tryz.func76, Tryz.ntmps76
  go_wp2_with fail
  go_ret
  exact ⟨by rw [HE.out]; rfl, B0.out⟩
 rw [decide_eq_true h6] at HE
 have HE : Hid (entsAll x = leOk x.term (max x.bterm 1) x.ents) := by unfold Hid; rw [HE.out]; simp
 by_cases hm : 1 ≤ x.bterm
 all_goals try have hm2 : x.bterm < 1 := by omega
 all_goals
  go_enter Tryz.func76, Tryz.ntmps76
  go_wp2_with fail
  generalize w.alloc (.cells #[.int .i64 x.term, .int .i64 x.vote, .int .i64 x.base, .int .i64 x.bterm, .slice A n cap] 42) = W at *
  clear hw1 h6
  go_loopw [3, 25] (fun v3 v4 wr => ∃ k : Nat, k ≤ n ∧ v4 = .int .i64 (k : Int) ∧ v3 = .int .i64 (leAt x.bterm x.ents k) ∧ Hid (entsAll x = leOk x.term (leAt x.bterm x.ents k) (x.ents.drop k)) ∧ Below W.heap.size W wr) (fun _ i _ => n - (intOf i).toNat)
  case atStart => exact ⟨0, by omega, rfl, by first | rfl | (unfold leAt; simp [Int.max_def]; try omega), HE, Below.refl _ _⟩
  case round =>
   obtain ⟨k, hk, rfl, rfl, HR, hb⟩ := hrel
   have HB1 : Hid (Below W.heap.size W wr) := hb
   have hlt0 := K0.out.lt
   have c0 := (hb.cell (p := ⟨w.heap.size, 0, none⟩) hlt0).trans (K0.out.cell 0 (.int .i64 x.term) rfl)
   have hsz := hb.size
   clear hb hlt0
   by_cases hlt : k < n
   ·have q4 : (k : Int) < (n : Int) := by omega
    obtain ⟨g, off, rfl, hg, hc0, hc1⟩ := HL.out k (by omega)
    have hgw : g < W.heap.size := Nat.lt_of_lt_of_le hg (Nat.le_trans HB.out B0.out.size)
    rw [← B0.out.cell (p := ⟨_, _, none⟩) (Nat.lt_of_lt_of_le hg HB.out), ← HB1.out.cell (p := ⟨_, _, none⟩) hgw] at hc0 hc1
    have HX := le_step x.term (leAt x.bterm x.ents k) x.ents k (by omega)
    have HX1 := leAt_succ x.bterm x.ents k
    have hds := HF.out _ (getD_mem x.ents k (by omega))
    unfold maxLen at hds
    have hdi : ((x.ents.getD k default).data.size : Int) ≤ 9223372036854775807 := by omega
    have HXX : Hid (entsAll x = (decide (leAt x.bterm x.ents k ≤ (x.ents.getD k default).term) && decide ((x.ents.getD k default).term ≤ x.term) && decide ((x.ents.getD k default).data.size ≤ 900) && leOk x.term (x.ents.getD k default).term (x.ents.drop (k + 1)))) := HR.out.trans HX
    have HXS : Hid (leAt x.bterm x.ents (k + 1) = (x.ents.getD k default).term) := HX1
    have HBF : Hid (Below w.heap.size w (wr.alloc (.cells #[.int .i64 (x.ents.getD k default).term, .string (x.ents.getD k default).data] 110))) := (B0.out.trans (HB1.out.mono B0.out.size)).alloc (Nat.le_trans B0.out.size HB1.out.size) _
    have HBG : Hid (Below W.heap.size W (wr.alloc (.cells #[.int .i64 (x.ents.getD k default).term, .string (x.ents.getD k default).data] 110))) := HB1.out.alloc HB1.out.size _
    clear HX HX1 HR hds
    generalize leAt x.bterm x.ents k = la at *
    generalize x.ents.getD k default = y at *
    obtain ⟨yt, yd⟩ := y
    simp only at hc0 hc1 HXX HXS HBF HBG hdi
    have hw0 : w.heap.size < wr.heap.size := Nat.lt_of_lt_of_le K0.out.lt hsz
    have hgr : g < wr.heap.size := Nat.lt_of_lt_of_le hgw hsz
    by_cases h8 : la ≤ yt
    rotate_left
    ·rw [decide_eq_false h8] at HXX
     have h8' : yt < la := by omega
     clear h8
     have HXX : Hid (entsAll x = false) := by unfold Hid; rw [HXX.out]; simp
     go_wp2_with fail
     go_ret
     exact ⟨by rw [HXX.out]; rfl, HBF.out⟩
    rw [decide_eq_true h8] at HXX
    by_cases h9 : yt ≤ x.term
    rotate_left
    ·rw [decide_eq_false h9] at HXX
     have h9' : x.term < yt := by omega
     clear h9
     have HXX : Hid (entsAll x = false) := by unfold Hid; rw [HXX.out]; simp
     go_wp2_with fail
     go_ret
     exact ⟨by rw [HXX.out]; rfl, HBF.out⟩
    rw [decide_eq_true h9] at HXX
    by_cases hz : (yd.size : Int) ≤ 900
    rotate_left
    ·rw [decide_eq_false (show ¬ yd.size ≤ 900 by omega)] at HXX
     have hz' : 900 < (yd.size : Int) := by omega
     clear hz
     have HXX : Hid (entsAll x = false) := by unfold Hid; rw [HXX.out]; simp
     go_wp2_with fail
     go_ret
     exact ⟨by rw [HXX.out]; rfl, HBF.out⟩
    rw [decide_eq_true (show yd.size ≤ 900 by omega)] at HXX
    have HXX : Hid (entsAll x = leOk x.term yt (x.ents.drop (k + 1))) := by unfold Hid; rw [HXX.out]; simp
    go_wp2_with fail
    go_roundw
    case rel => exact ⟨k + 1, by omega, by go_num, by rw [HXS.out], by rw [HXS.out]; exact HXX, HBG.out⟩
    case measure => simp [intOf]; omega
   ·obtain rfl : k = n := by omega
    have HXX : Hid (entsAll x = true) := by
     unfold Hid
     rw [HR.out, ← hN, List.drop_length]
     rfl
    clear HR
    generalize leAt x.bterm x.ents k = la at *
    go_wp2_with fail
    go_ret
    exact ⟨by rw [HXX.out]; rfl, B0.out.trans (HB1.out.mono B0.out.size)⟩
theorem below_alloc3' (w : World) (a b c : Obj) : Below w.heap.size w (((w.alloc a).alloc b).alloc c) := (((Below.refl _ w).alloc (Nat.le_refl _) a).alloc (by simp) b).alloc (by simp; omega) c
theorem recOk_hard (t v : Int) : recOk ⟨1, t, 0, v, ⟨#[]⟩⟩ = (inIt t 0 100000 && inIt v (-1) 4) := by
 show (inIt t 0 100000 && inIt v (-1) 4 && decide ((0 : Int) = 0) && decide ((⟨#[]⟩ : ByteArray) = ByteArray.empty)) = _
 rw [decide_eq_true (show (0 : Int) = 0 from rfl), decide_eq_true (show (⟨#[]⟩ : ByteArray) = ByteArray.empty from rfl), Bool.and_true, Bool.and_true]
theorem recOk_base (i t : Int) : recOk ⟨4, t, i, 0, ⟨#[]⟩⟩ = based i t := by
 show (based i t && decide ((0 : Int) = 0) && decide ((⟨#[]⟩ : ByteArray) = ByteArray.empty)) = _
 rw [decide_eq_true (show (0 : Int) = 0 from rfl), decide_eq_true (show (⟨#[]⟩ : ByteArray) = ByteArray.empty from rfl), Bool.and_true, Bool.and_true]
set_option maxHeartbeats 2000000 in
theorem implWalOk (x : Wl) (v : Value) (w : World) (B : Nat) (hv : WalV w B v x) (hf : FitsW x) (hB : B ≤ w.heap.size) : Calls Tryz.prog 35 #[v] w fun e w' => e = .returned (.bool (walOk x)) ∧ Below w.heap.size w w' := by
 obtain ⟨u, rfl, hl⟩ := hv
 have HL : Hid (Lies w B 2 u (entR x.ents)) := hl
 have HF : Hid (FitsW x) := hf
 have HB : Hid (B ≤ w.heap.size) := hB
 have HE : Hid (walOk x = ((inIt x.term 0 100000 && inIt x.vote (-1) 4) && based x.base x.bterm && decide (x.bterm ≤ x.term) && entsAll x)) := by
  unfold Hid walOk entsAll
  simp only [Bool.and_assoc]
 have a1 := fun wx => implRecOk ⟨1, x.term, 0, x.vote, ⟨#[]⟩⟩ wx (by show (0 : Nat) ≤ _; exact Nat.zero_le _)
 have a2 := fun wx => implRecOk ⟨4, x.bterm, x.base, 0, ⟨#[]⟩⟩ wx (by show (0 : Nat) ≤ _; exact Nat.zero_le _)
 rw [recOk_hard] at a1
 rw [recOk_base] at a2
 unfold vRcd at a1 a2
 simp only at a1 a2
 clear hl hf hB
 cases h1 : (inIt x.term 0 100000 && inIt x.vote (-1) 4) <;> rw [h1] at a1 HE
 ·clear h1
  go_enter Tryz.func35, Tryz.ntmps35
  go_wp2_with fail
  have B0 := below_alloc3' w (.cells #[.int .i64 x.term, .int .i64 x.vote, .int .i64 x.base, .int .i64 x.bterm, u] 42) (.cells #[.int .i64 1, .int .i64 x.term, .int .i64 0, .int .i64 x.vote, .string ⟨#[]⟩] 116) (.cells #[.int .i64 4, .int .i64 x.bterm, .int .i64 x.base, .int .i64 0, .string ⟨#[]⟩] 116)
  have k0 := ((Blk.new w #[.int .i64 x.term, .int .i64 x.vote, .int .i64 x.base, .int .i64 x.bterm, u] 42).alloc (.cells #[.int .i64 1, .int .i64 x.term, .int .i64 0, .int .i64 x.vote, .string ⟨#[]⟩] 116)).alloc (.cells #[.int .i64 4, .int .i64 x.bterm, .int .i64 x.base, .int .i64 0, .string ⟨#[]⟩] 116)
  have k2 := Blk.new ((w.alloc (.cells #[.int .i64 x.term, .int .i64 x.vote, .int .i64 x.base, .int .i64 x.bterm, u] 42)).alloc (.cells #[.int .i64 1, .int .i64 x.term, .int .i64 0, .int .i64 x.vote, .string ⟨#[]⟩] 116)) #[.int .i64 4, .int .i64 x.bterm, .int .i64 x.base, .int .i64 0, .string ⟨#[]⟩] 116
  simp only [World.size_alloc] at k2
  generalize ((w.alloc (.cells #[.int .i64 x.term, .int .i64 x.vote, .int .i64 x.base, .int .i64 x.bterm, u] 42)).alloc (.cells #[.int .i64 1, .int .i64 x.term, .int .i64 0, .int .i64 x.vote, .string ⟨#[]⟩] 116)).alloc (.cells #[.int .i64 4, .int .i64 x.bterm, .int .i64 x.base, .int .i64 0, .string ⟨#[]⟩] 116) = W at *
  refine (a1 W).mono ?_
  rintro e w1 ⟨rfl, hb1⟩
  have B1 : Hid (Below w.heap.size w w1) := B0.trans (hb1.mono B0.size)
  clear B0 hb1 k0 k2
  go_wp2_with fail
  go_ret
  exact ⟨by rw [HE.out]; rfl, B1.out⟩
 clear h1
 cases h3 : based x.base x.bterm <;> rw [h3] at a2 HE
 ·clear h3
  go_enter Tryz.func35, Tryz.ntmps35
  go_wp2_with fail
  have B0 := below_alloc3' w (.cells #[.int .i64 x.term, .int .i64 x.vote, .int .i64 x.base, .int .i64 x.bterm, u] 42) (.cells #[.int .i64 1, .int .i64 x.term, .int .i64 0, .int .i64 x.vote, .string ⟨#[]⟩] 116) (.cells #[.int .i64 4, .int .i64 x.bterm, .int .i64 x.base, .int .i64 0, .string ⟨#[]⟩] 116)
  have k0 := ((Blk.new w #[.int .i64 x.term, .int .i64 x.vote, .int .i64 x.base, .int .i64 x.bterm, u] 42).alloc (.cells #[.int .i64 1, .int .i64 x.term, .int .i64 0, .int .i64 x.vote, .string ⟨#[]⟩] 116)).alloc (.cells #[.int .i64 4, .int .i64 x.bterm, .int .i64 x.base, .int .i64 0, .string ⟨#[]⟩] 116)
  have k2 := Blk.new ((w.alloc (.cells #[.int .i64 x.term, .int .i64 x.vote, .int .i64 x.base, .int .i64 x.bterm, u] 42)).alloc (.cells #[.int .i64 1, .int .i64 x.term, .int .i64 0, .int .i64 x.vote, .string ⟨#[]⟩] 116)) #[.int .i64 4, .int .i64 x.bterm, .int .i64 x.base, .int .i64 0, .string ⟨#[]⟩] 116
  simp only [World.size_alloc] at k2
  generalize ((w.alloc (.cells #[.int .i64 x.term, .int .i64 x.vote, .int .i64 x.base, .int .i64 x.bterm, u] 42)).alloc (.cells #[.int .i64 1, .int .i64 x.term, .int .i64 0, .int .i64 x.vote, .string ⟨#[]⟩] 116)).alloc (.cells #[.int .i64 4, .int .i64 x.bterm, .int .i64 x.base, .int .i64 0, .string ⟨#[]⟩] 116) = W at *
  refine (a1 W).mono ?_
  rintro e w1 ⟨rfl, hb1⟩
  have B1 : Hid (Below w.heap.size w w1) := B0.trans (hb1.mono B0.size)
  have K1 : Hid (Blk w1 w.heap.size #[.int .i64 x.term, .int .i64 x.vote, .int .i64 x.base, .int .i64 x.bterm, u] 42) := k0.on hb1 k0.lt
  have l2 := k2.on hb1 k2.lt
  have e0 := l2.cell 0 (.int .i64 4) rfl
  have e1 := l2.cell 1 (.int .i64 x.bterm) rfl
  have e2 := l2.cell 2 (.int .i64 x.base) rfl
  have e3 := l2.cell 3 (.int .i64 0) rfl
  have e4 := l2.cell 4 (.string ⟨#[]⟩) rfl
  clear B0 hb1 k0 k2 l2
  go_wp2_with fail
  refine (a2 w1).mono ?_
  rintro e w2 ⟨rfl, hb2⟩
  have B2 : Hid (Below w.heap.size w w2) := B1.out.trans (hb2.mono B1.out.size)
  have k2 := K1.out.on hb2 K1.out.lt
  clear e0 e1 e2 e3 e4 hb2
  have e0 := k2.cell 0 (.int .i64 x.term) rfl
  have e1 := k2.cell 1 (.int .i64 x.vote) rfl
  have e2 := k2.cell 2 (.int .i64 x.base) rfl
  have e3 := k2.cell 3 (.int .i64 x.bterm) rfl
  have e4 := k2.cell 4 (u) rfl
  clear k2
  go_wp2_with fail
  go_ret
  exact ⟨by rw [HE.out]; rfl, B2.out⟩
 obtain ⟨⟨b1, b2⟩, _⟩ := based_in _ _ h3
 clear h3
 by_cases h4 : x.bterm ≤ x.term
 rotate_left
 ·rw [decide_eq_false h4] at HE
  have h4' : x.term < x.bterm := by omega
  have z4 : decide (x.bterm ≤ x.term) = false := decide_eq_false h4
  clear h4
  go_enter Tryz.func35, Tryz.ntmps35
  go_wp2_with fail
  have B0 := below_alloc3' w (.cells #[.int .i64 x.term, .int .i64 x.vote, .int .i64 x.base, .int .i64 x.bterm, u] 42) (.cells #[.int .i64 1, .int .i64 x.term, .int .i64 0, .int .i64 x.vote, .string ⟨#[]⟩] 116) (.cells #[.int .i64 4, .int .i64 x.bterm, .int .i64 x.base, .int .i64 0, .string ⟨#[]⟩] 116)
  have k0 := ((Blk.new w #[.int .i64 x.term, .int .i64 x.vote, .int .i64 x.base, .int .i64 x.bterm, u] 42).alloc (.cells #[.int .i64 1, .int .i64 x.term, .int .i64 0, .int .i64 x.vote, .string ⟨#[]⟩] 116)).alloc (.cells #[.int .i64 4, .int .i64 x.bterm, .int .i64 x.base, .int .i64 0, .string ⟨#[]⟩] 116)
  have k2 := Blk.new ((w.alloc (.cells #[.int .i64 x.term, .int .i64 x.vote, .int .i64 x.base, .int .i64 x.bterm, u] 42)).alloc (.cells #[.int .i64 1, .int .i64 x.term, .int .i64 0, .int .i64 x.vote, .string ⟨#[]⟩] 116)) #[.int .i64 4, .int .i64 x.bterm, .int .i64 x.base, .int .i64 0, .string ⟨#[]⟩] 116
  simp only [World.size_alloc] at k2
  generalize ((w.alloc (.cells #[.int .i64 x.term, .int .i64 x.vote, .int .i64 x.base, .int .i64 x.bterm, u] 42)).alloc (.cells #[.int .i64 1, .int .i64 x.term, .int .i64 0, .int .i64 x.vote, .string ⟨#[]⟩] 116)).alloc (.cells #[.int .i64 4, .int .i64 x.bterm, .int .i64 x.base, .int .i64 0, .string ⟨#[]⟩] 116) = W at *
  refine (a1 W).mono ?_
  rintro e w1 ⟨rfl, hb1⟩
  have B1 : Hid (Below w.heap.size w w1) := B0.trans (hb1.mono B0.size)
  have K1 : Hid (Blk w1 w.heap.size #[.int .i64 x.term, .int .i64 x.vote, .int .i64 x.base, .int .i64 x.bterm, u] 42) := k0.on hb1 k0.lt
  have l2 := k2.on hb1 k2.lt
  have e0 := l2.cell 0 (.int .i64 4) rfl
  have e1 := l2.cell 1 (.int .i64 x.bterm) rfl
  have e2 := l2.cell 2 (.int .i64 x.base) rfl
  have e3 := l2.cell 3 (.int .i64 0) rfl
  have e4 := l2.cell 4 (.string ⟨#[]⟩) rfl
  clear B0 hb1 k0 k2 l2
  go_wp2_with fail
  refine (a2 w1).mono ?_
  rintro e w2 ⟨rfl, hb2⟩
  have B2 : Hid (Below w.heap.size w w2) := B1.out.trans (hb2.mono B1.out.size)
  have k2 := K1.out.on hb2 K1.out.lt
  clear e0 e1 e2 e3 e4 hb2
  have e0 := k2.cell 0 (.int .i64 x.term) rfl
  have e1 := k2.cell 1 (.int .i64 x.vote) rfl
  have e2 := k2.cell 2 (.int .i64 x.base) rfl
  have e3 := k2.cell 3 (.int .i64 x.bterm) rfl
  have e4 := k2.cell 4 (u) rfl
  clear k2
  go_wp2_with fail
  go_ret
  exact ⟨by rw [HE.out]; rfl, B2.out⟩
 rw [decide_eq_true h4] at HE
 go_enter Tryz.func35, Tryz.ntmps35
 go_wp2_with fail
 have B0 := below_alloc3' w (.cells #[.int .i64 x.term, .int .i64 x.vote, .int .i64 x.base, .int .i64 x.bterm, u] 42) (.cells #[.int .i64 1, .int .i64 x.term, .int .i64 0, .int .i64 x.vote, .string ⟨#[]⟩] 116) (.cells #[.int .i64 4, .int .i64 x.bterm, .int .i64 x.base, .int .i64 0, .string ⟨#[]⟩] 116)
 have k0 := ((Blk.new w #[.int .i64 x.term, .int .i64 x.vote, .int .i64 x.base, .int .i64 x.bterm, u] 42).alloc (.cells #[.int .i64 1, .int .i64 x.term, .int .i64 0, .int .i64 x.vote, .string ⟨#[]⟩] 116)).alloc (.cells #[.int .i64 4, .int .i64 x.bterm, .int .i64 x.base, .int .i64 0, .string ⟨#[]⟩] 116)
 have k2 := Blk.new ((w.alloc (.cells #[.int .i64 x.term, .int .i64 x.vote, .int .i64 x.base, .int .i64 x.bterm, u] 42)).alloc (.cells #[.int .i64 1, .int .i64 x.term, .int .i64 0, .int .i64 x.vote, .string ⟨#[]⟩] 116)) #[.int .i64 4, .int .i64 x.bterm, .int .i64 x.base, .int .i64 0, .string ⟨#[]⟩] 116
 simp only [World.size_alloc] at k2
 generalize ((w.alloc (.cells #[.int .i64 x.term, .int .i64 x.vote, .int .i64 x.base, .int .i64 x.bterm, u] 42)).alloc (.cells #[.int .i64 1, .int .i64 x.term, .int .i64 0, .int .i64 x.vote, .string ⟨#[]⟩] 116)).alloc (.cells #[.int .i64 4, .int .i64 x.bterm, .int .i64 x.base, .int .i64 0, .string ⟨#[]⟩] 116) = W at *
 refine (a1 W).mono ?_
 rintro e w1 ⟨rfl, hb1⟩
 have B1 : Hid (Below w.heap.size w w1) := B0.trans (hb1.mono B0.size)
 have K1 : Hid (Blk w1 w.heap.size #[.int .i64 x.term, .int .i64 x.vote, .int .i64 x.base, .int .i64 x.bterm, u] 42) := k0.on hb1 k0.lt
 have l2 := k2.on hb1 k2.lt
 have e0 := l2.cell 0 (.int .i64 4) rfl
 have e1 := l2.cell 1 (.int .i64 x.bterm) rfl
 have e2 := l2.cell 2 (.int .i64 x.base) rfl
 have e3 := l2.cell 3 (.int .i64 0) rfl
 have e4 := l2.cell 4 (.string ⟨#[]⟩) rfl
 clear B0 hb1 k0 k2 l2
 go_wp2_with fail
 refine (a2 w1).mono ?_
 rintro e w2 ⟨rfl, hb2⟩
 have B2 : Hid (Below w.heap.size w w2) := B1.out.trans (hb2.mono B1.out.size)
 have k2 := K1.out.on hb2 K1.out.lt
 clear e0 e1 e2 e3 e4 hb2
 have e0 := k2.cell 0 (.int .i64 x.term) rfl
 have e1 := k2.cell 1 (.int .i64 x.vote) rfl
 have e2 := k2.cell 2 (.int .i64 x.base) rfl
 have e3 := k2.cell 3 (.int .i64 x.bterm) rfl
 have e4 := k2.cell 4 (u) rfl
 clear k2
 go_wp2_with fail
 refine (entriesOkV x (.agg #[.int .i64 x.term, .int .i64 x.vote, .int .i64 x.base, .int .i64 x.bterm, u]) w2 B ⟨u, rfl, HL.out.on (B2.out.mono HB.out)⟩ HF.out (Nat.le_trans HB.out B2.out.size) b1 b2).mono ?_
 rintro e w3 ⟨rfl, hb3⟩
 have B3 : Hid (Below w.heap.size w w3) := B2.out.trans (hb3.mono B2.out.size)
 clear hb3
 have HE : Hid (walOk x = entsAll x) := by unfold Hid; rw [HE.out]; simp
 generalize entsAll x = z at *
 go_wp2_with fail
 go_ret
 exact ⟨by rw [HE.out]; first | rfl | simp, B3.out⟩
end Go.Proofs.YtepffbgelaajnaaGreatDoor
namespace Go.Proofs.YtepffbgelaajnaaGreatDoor
open Go.ChangeShapes Go.WideShapes Go.ChangeAt Go.RowKit Go.PlainAid
set_option linter.unusedVariables false
set_option maxHeartbeats 400000 in
theorem in_yes (x lo hi : Int) (w : World) (h1 : lo ≤ x) (h2 : x ≤ hi) :
  Calls Tryz.prog 56 #[.int .i64 x, .int .i64 lo, .int .i64 hi] w fun e w' => e = .returned (.bool true) ∧ w = w' := by
 go_enter Tryz.func56, Tryz.ntmps56
 go_wp2
 go_ret
 exact ⟨rfl, rfl⟩
set_option maxHeartbeats 400000 in
theorem spec_var (n : Nat) (w : World) (h1 : n ≤ 562949953421311) :
  Calls Tryz.prog 97 #[.int .i64 (n : Int)] w fun e w' => e = .returned (.string (txt (vF 6 n))) ∧ Below w.heap.size w w' := by
 have q1 : (n : Int) ≤ 562949953421311 := by omega
 go_enter Tryz.func97, Tryz.ntmps97
 go_wp2_with (go_at_call 56; refine (in_yes _ _ _ _ (by omega) (by omega)).mono ?_; rintro e w' ⟨rfl, rfl⟩)
 go_loopw [0, 3] (fun v0 v3 wr => ∃ m f : Nat, ∃ pre : List UInt8, v0 = .int .i64 m ∧ m ≤ 562949953421311 ∧ m < 128 ^ (f + 1) ∧ pre ++ vF f m = vF 6 n ∧ Buf wr w.heap.size v3 pre ∧ Below w.heap.size w wr) (fun i _ _ => (intOf i).toNat)
 case atStart => exact ⟨n, 6, [], rfl, h1, by omega, rfl, Buf.made w w.heap.size 0 #[] (Nat.le_refl _) (by simp [maxLen]) rfl, (Below.refl _ _).alloc (Nat.le_refl _) _⟩
 case round =>
  obtain ⟨m, f, pre, rfl, hm1, hm2, hpre, hbuf, hb⟩ := hrel
  have HP : Hid (pre ++ vF f m = vF 6 n) := hpre
  clear hpre
  have HM : Hid (m < 128 ^ (f + 1)) := hm2
  clear hm2
  have hlp : pre.length ≤ 7 := by
   have := congrArg List.length HP.out
   have := vF_length 6 n
   simp at *
   omega
  have hsz := hb.size
  by_cases hlt : (128 : Int) ≤ (m : Int)
  ·have hcs := one_cell (128 + (m : Int) % 128) (128 + m % 128) (by omega) (by omega)
   have HC : Hid (#[Value.int .u8 (128 + (m : Int) % 128)] = byteCells [byt (128 + m % 128)]) := hcs
   clear hcs
   go_wp2_with (at_builtin; refine wpList_append_bytes rfl (.tmp 10) (.tmp 15) 138 rfl Tryz.underlying138 Tryz.info5 w.heap.size _ pre rfl hbuf _ [byt (128 + m % 128)] HC.out 1 1 rfl rfl (by simp; omega) hsz ?_; intro v' w1 hbuf1 hb1)
   obtain ⟨g, hg1, hg2, _⟩ := vF_round f m pre HM.out (by omega)
   go_roundw
   case rel => exact ⟨m / 128, g, pre ++ [byt (128 + m % 128)], by go_num, by omega, hg1, hg2.trans HP.out, hbuf1, hb.trans hb1⟩
   case measure => simp [intOf]; omega
  ·have hcs := one_cell (m : Int) m rfl (by omega)
   have HC : Hid (#[Value.int .u8 (m : Int)] = byteCells [byt m]) := hcs
   clear hcs
   go_wp2_with (at_builtin; refine wpList_append_bytes rfl (.tmp 19) (.tmp 22) 138 rfl Tryz.underlying138 Tryz.info5 w.heap.size _ pre rfl hbuf _ [byt m] HC.out 1 1 rfl rfl (by simp; omega) hsz ?_; intro v' w1 hbuf1 hb1; have hcv := hbuf1.string (P := Tryz.prog) 138 9 Tryz.underlying138 Tryz.underlying5 Tryz.underlying9)
   go_ret
   exact ⟨by rw [← HP.out, vF_small f m (by omega)]; rfl, hb.trans hb1⟩
set_option maxHeartbeats 400000 in
theorem impl_var (n : Nat) (w : World) (h1 : n ≤ 562949953421311) :
  Calls Tryz.prog 107 #[.int .i64 (n : Int)] w fun e w' => e = .returned (.string (txt (vF 6 n))) ∧ Below w.heap.size w w' := by
 have q1 : (n : Int) ≤ 562949953421311 := by omega
 have q0 : (0 : Int) ≤ (n : Int) := by omega
 have hmk : ∀ w : World, (Instr.makeSlice 138 (.int .i64 0) (.int .i64 7)).run Tryz.prog w = .ok (.slice (some ⟨w.heap.size, 0, none⟩) 0 7) (w.alloc (.cells #[.int .u8 0, .int .u8 0, .int .u8 0, .int .u8 0, .int .u8 0, .int .u8 0, .int .u8 0] 5)) := fun _ => by kernel_rfl
 go_enter Tryz.func107, Tryz.ntmps107
 go_wp2
 go_loopw [0, 3] (fun v0 v3 wr => ∃ m f : Nat, ∃ pre : List UInt8, v0 = .int .i64 m ∧ m ≤ 562949953421311 ∧ m < 128 ^ (f + 1) ∧ pre ++ vF f m = vF 6 n ∧ Buf wr w.heap.size v3 pre ∧ Below w.heap.size w wr) (fun i _ _ => (intOf i).toNat)
 case atStart => exact ⟨n, 6, [], rfl, h1, by omega, rfl, Buf.made w w.heap.size 7 _ (Nat.le_refl _) (by simp [maxLen]) rfl, (Below.refl _ _).alloc (Nat.le_refl _) _⟩
 case round =>
  obtain ⟨m, f, pre, rfl, hm1, hm2, hpre, hbuf, hb⟩ := hrel
  have HP : Hid (pre ++ vF f m = vF 6 n) := hpre
  clear hpre
  have HM : Hid (m < 128 ^ (f + 1)) := hm2
  clear hm2
  have hlp : pre.length ≤ 7 := by
   have := congrArg List.length HP.out
   have := vF_length 6 n
   simp at *
   omega
  have hsz := hb.size
  by_cases hlt : (128 : Int) ≤ (m : Int)
  ·have hcs := one_cell ((m : Int) % 128 + 128) (128 + m % 128) (by omega) (by omega)
   have HC : Hid (#[Value.int .u8 ((m : Int) % 128 + 128)] = byteCells [byt (128 + m % 128)]) := hcs
   clear hcs
   go_wp2_with (at_builtin; refine wpList_append_bytes rfl (.tmp 13) (.tmp 18) 138 rfl Tryz.underlying138 Tryz.info5 w.heap.size _ pre rfl hbuf _ [byt (128 + m % 128)] HC.out 1 1 rfl rfl (by simp; omega) hsz ?_; intro v' w1 hbuf1 hb1)
   obtain ⟨g, hg1, hg2, _⟩ := vF_round f m pre HM.out (by omega)
   go_roundw
   case rel => exact ⟨m / 128, g, pre ++ [byt (128 + m % 128)], by go_num, by omega, hg1, hg2.trans HP.out, hbuf1, hb.trans hb1⟩
   case measure => simp [intOf]; omega
  ·have hcs := one_cell (m : Int) m rfl (by omega)
   have HC : Hid (#[Value.int .u8 (m : Int)] = byteCells [byt m]) := hcs
   clear hcs
   go_wp2_with (at_builtin; refine wpList_append_bytes rfl (.tmp 22) (.tmp 25) 138 rfl Tryz.underlying138 Tryz.info5 w.heap.size _ pre rfl hbuf _ [byt m] HC.out 1 1 rfl rfl (by simp; omega) hsz ?_; intro v' w1 hbuf1 hb1; have hcv := hbuf1.string (P := Tryz.prog) 138 9 Tryz.underlying138 Tryz.underlying5 Tryz.underlying9)
   go_ret
   exact ⟨by rw [← HP.out, vF_small f m (by omega)]; rfl, hb.trans hb1⟩
end Go.Proofs.YtepffbgelaajnaaGreatDoor
namespace Go.Proofs.YtepffbgelaajnaaGreatDoor
open Go
section
variable {P : Program} {ops : Array Oper} {Q : Exit → Act → World → Prop} {md : Region.Mode} {S : World → Prop} {T : Nat → Bool}
def wpUntil (P : Program) (md : Region.Mode) (ops : Array Oper) (Q : Exit → Act → World → Prop) (S : World → Prop) (T : Nat → Bool) : Nat → Array Bool → Act → World → Prop
 | 0, listed, a, w => Region.ready md ops listed = [] ∧ Q .normal a w
 | fuel + 1, listed, a, w =>
  (Region.ready md ops listed = [] → Q .normal a w) ∧ ∀ i ∈ Region.ready md ops listed, wpOp P ops Q i (fun a' w' => (T i = false → S w → S w') ∧ wpUntil P md ops Q S T fuel (listed.setIfInBounds i true) a' w') a w
theorem wpAny_of_until : ∀ (fuel : Nat) (listed : Array Bool) (a : Act) (w : World), wpUntil P md ops Q S T fuel listed a w → wpAny P md ops Q fuel listed a w
 | 0, _, _, _, h => h
 | fuel + 1, _, _, _, h => ⟨h.1, fun i hi => wpOp_mono (fun a' w' h' => wpAny_of_until fuel _ a' w' h'.2) (h.2 i hi)⟩
def needs (md : Region.Mode) (ops : Array Oper) : Nat → Nat → Nat → Bool
 | 0, _, _ => false
 | f + 1, t, i => match ops[t]? with
  | some o => o.after.any fun e => Region.binds md e && (e.on == i || needs md ops f e.on i)
  | none => false
def Closed (md : Region.Mode) (ops : Array Oper) (listed : Array Bool) : Prop :=
 ∀ j oj, ops[j]? = some oj → listed.getD j false = true → ∀ e ∈ oj.after, Region.binds md e = true → listed.getD e.on false = true
theorem needs_some {f t i : Nat} (h : needs md ops f t i = true) : ∃ o, ops[t]? = some o := by
 cases f with
 | zero => cases h
 | succ f =>
  unfold needs at h
  cases e : ops[t]? with
  | none => rw [e] at h; cases h
  | some o => exact ⟨o, rfl⟩
theorem needs_listed {listed : Array Bool} (hc : Closed md ops listed) : ∀ (f t i : Nat) (ot : Oper), ops[t]? = some ot → (∀ e ∈ ot.after, Region.binds md e = true → listed.getD e.on false = true) → needs md ops f t i = true → listed.getD i false = true
 | 0, _, _, _, _, _, h => by cases h
 | f + 1, t, i, ot, hot, hall, h => by
  unfold needs at h
  rw [hot] at h
  obtain ⟨e, he, hb⟩ := Array.any_eq_true'.1 h
  rw [Bool.and_eq_true, Bool.or_eq_true] at hb
  have h1 := hall e he hb.1
  rcases hb.2 with h2 | h2
  ·rw [← beq_iff_eq.1 h2]
   exact h1
  ·obtain ⟨o2, ho2⟩ := needs_some h2
   exact needs_listed hc f e.on i o2 ho2 (hc e.on o2 ho2 h1) h2
theorem Closed.set {i : Nat} {listed : Array Bool} (h : Closed md ops listed) (hi : i ∈ Region.ready md ops listed) : Closed md ops (listed.setIfInBounds i true) := by
 obtain ⟨_, oi, hoi, hall⟩ := mem_ready.1 hi
 intro j oj hj hl e he hb
 by_cases hij : i = j
 ·subst hij
  have : oj = oi := Option.some.inj (hj.symm.trans hoi)
  subst this
  exact getD_set_true (hall e he hb)
 ·rw [_root_.Go.getD_set_ne false hij] at hl
  exact getD_set_true (h j oj hj hl e he hb)
theorem wpUntil_first {i : Nat} {oi : Oper} {v : Value} (hi : ops[i]? = some oi) (hsel : ∀ (j : Nat) (o : Oper) cs b, ops[j]? = some o → o.op ≠ .select cs b)
  (hQ : ∀ c a w, Q (.panic c) (a.put oi.dst v) w → Q (.panic c) a w) (hT : ∀ t, t < ops.size → T t = true → needs md ops ops.size t i = true) :
  ∀ (fuel : Nat) (listed : Array Bool) (a : Act) (w : World), Closed md ops listed →
   (∀ j oj, ops[j]? = some oj → j ≠ i → listed.getD j true = false → (∀ e ∈ oj.after, Region.binds md e = true → e.on ≠ i) → oi.apart ops oj = true) →
   i ∈ Region.ready md ops listed → YieldsIf P ops S oi v a → S w →
   wpUntil P md ops Q S T fuel (listed.setIfInBounds i true) (a.put oi.dst v) w → wpUntil P md ops Q S T (fuel + 1) listed a w := by
 intro fuel
 induction fuel with
 | zero =>
  intro listed a w _ _ hr hy hS H
  refine ⟨fun h => (by rw [h] at hr; cases hr), fun j hj => ?_⟩
  by_cases hji : j = i
  ·subst hji
   exact hy.wpOp hi hS ⟨fun _ h => h, H⟩
  ·have := ready_mono hj hji
   rw [H.1] at this
   cases this
 | succ fuel ih =>
  intro listed a w hc hfree hr hy hS H
  refine ⟨fun h => (by rw [h] at hr; cases hr), fun j hj => ?_⟩
  by_cases hji : j = i
  ·subst hji
   exact hy.wpOp hi hS ⟨fun _ h => h, H⟩
  ·have h1 := H.2 j (ready_mono hj hji)
   obtain ⟨hjun, oj, hoj, hall⟩ := mem_ready.1 hj
   have hun := getD_both (mem_ready.1 hr).1
   have hnot : ∀ e ∈ oj.after, Region.binds md e = true → e.on ≠ i := fun e he hb heq => by
    have h1 := hall e he hb
    rw [heq, hun] at h1
    cases h1
   have hTj : T j = false := by
    cases e : T j with
    | false => rfl
    | true =>
     have := needs_listed hc _ j i oj hoj hall (hT j (Array.getElem?_eq_some_iff.1 hoj).1 e)
     rw [hun] at this
     cases this
   have h2 := wpOp_putIf hoj (hfree j oj hoj hji hjun hnot) (fun cs b => hsel i oi cs b hi) (fun cs b => hsel j oj cs b hoj) hQ hy h1
   have hfree' : ∀ k ok, ops[k]? = some ok → k ≠ i → (listed.setIfInBounds j true).getD k true = false →
     (∀ e ∈ ok.after, Region.binds md e = true → e.on ≠ i) → oi.apart ops ok = true := fun k ok hk hki hun hno => by
    refine hfree k ok hk hki ?_ hno
    by_cases hjk : j = k
    ·subst hjk
     exact hjun
    ·rw [_root_.Go.getD_set_ne true hjk] at hun
     exact hun
   refine wpOp_mono (fun a' w' h3 => ⟨h3.2.1, ih (listed.setIfInBounds j true) a' w' (hc.set hj) hfree' (ready_mono hr (Ne.symm hji)) h3.1 (h3.2.1 hTj hS) ?_⟩) h2
   rw [Array.setIfInBounds_comm _ _ hji]
   exact h3.2.2
theorem wpUntil_pure {i : Nat} {oi : Oper} {v : Value} (hi : ops[i]? = some oi) (hsel : ∀ (j : Nat) (o : Oper) cs b, ops[j]? = some o → o.op ≠ .select cs b)
  (hQ : ∀ c a w, Q (.panic c) (a.put oi.dst v) w → Q (.panic c) a w) :
  ∀ (fuel : Nat) (listed : Array Bool) (a : Act) (w : World),
   (∀ j oj, ops[j]? = some oj → j ≠ i → listed.getD j true = false → (∀ e ∈ oj.after, Region.binds md e = true → e.on ≠ i) → oi.apart ops oj = true) →
   i ∈ Region.ready md ops listed → YieldsIf P ops (fun _ => True) oi v a →
   wpUntil P md ops Q S T fuel (listed.setIfInBounds i true) (a.put oi.dst v) w → wpUntil P md ops Q S T (fuel + 1) listed a w := by
 intro fuel
 induction fuel with
 | zero =>
  intro listed a w _ hr hy H
  refine ⟨fun h => (by rw [h] at hr; cases hr), fun j hj => ?_⟩
  by_cases hji : j = i
  ·subst hji
   exact hy.wpOp hi trivial ⟨fun _ h => h, H⟩
  ·have := ready_mono hj hji
   rw [H.1] at this
   cases this
 | succ fuel ih =>
  intro listed a w hfree hr hy H
  refine ⟨fun h => (by rw [h] at hr; cases hr), fun j hj => ?_⟩
  by_cases hji : j = i
  ·subst hji
   exact hy.wpOp hi trivial ⟨fun _ h => h, H⟩
  ·have h1 := H.2 j (ready_mono hj hji)
   obtain ⟨hjun, oj, hoj, hall⟩ := mem_ready.1 hj
   have hun := getD_both (mem_ready.1 hr).1
   have hnot : ∀ e ∈ oj.after, Region.binds md e = true → e.on ≠ i := fun e he hb heq => by
    have h1 := hall e he hb
    rw [heq, hun] at h1
    cases h1
   have h2 := wpOp_putIf hoj (hfree j oj hoj hji hjun hnot) (fun cs b => hsel i oi cs b hi) (fun cs b => hsel j oj cs b hoj) hQ hy h1
   have hfree' : ∀ k ok, ops[k]? = some ok → k ≠ i → (listed.setIfInBounds j true).getD k true = false →
     (∀ e ∈ ok.after, Region.binds md e = true → e.on ≠ i) → oi.apart ops ok = true := fun k ok hk hki hun hno => by
    refine hfree k ok hk hki ?_ hno
    by_cases hjk : j = k
    ·subst hjk
     exact hjun
    ·rw [_root_.Go.getD_set_ne true hjk] at hun
     exact hun
   refine wpOp_mono (fun a' w' h3 => ⟨h3.2.1, ih (listed.setIfInBounds j true) a' w' hfree' (ready_mono hr (Ne.symm hji)) h3.1 ?_⟩) h2
   rw [Array.setIfInBounds_comm _ _ hji]
   exact h3.2.2
def closedB (md : Region.Mode) (ops : Array Oper) (listed : Array Bool) : Bool :=
 (List.range ops.size).all fun j => match ops[j]? with
  | some oj => !(listed.getD j false) || oj.after.all fun e => !Region.binds md e || listed.getD e.on false
  | none => true
theorem closedB_spec {listed : Array Bool} (h : closedB md ops listed = true) : Closed md ops listed := by
 intro j oj hj hl e he hb
 have h1 := List.all_eq_true.1 h j (List.mem_range.2 (Array.getElem?_eq_some_iff.1 hj).1)
 rw [hj] at h1
 simp only [hl, Bool.not_true, Bool.false_or] at h1
 have h2 := Array.all_eq_true'.1 h1 e he
 rw [hb] at h2
 simpa using h2
def takeB (md : Region.Mode) (ops : Array Oper) (T : Nat → Bool) (listed : Array Bool) (i : Nat) : Bool :=
 Region.noSelect ops && Region.free md ops listed i && (Region.ready md ops listed).contains i && closedB md ops listed && (List.range ops.size).all fun t => !T t || needs md ops ops.size t i
theorem drop_at {l : List Oper} {i : Nat} {o : Oper} {rest : List Oper} (h : l.drop i = o :: rest) : l.toArray[i]? = some o := by
 have := congrArg (fun x : List Oper => x[0]?) h
 simpa [List.getElem?_drop] using this
theorem until_take {l : List Oper} (i : Nat) {oi : Oper} {rest : List Oper} {v : Value} {fuel : Nat} {listed : Array Bool} {a : Act} {w : World} (hd : l.drop i = oi :: rest) (hB : takeB md l.toArray T listed i = true)
  (hQ : ∀ c a w, Q (.panic c) (a.put oi.dst v) w → Q (.panic c) a w) (hw : Region.wanted oi (yielded l.toArray a.tmps) = true) (hy : ∀ w, S w → (execOp a.eval oi).run P w = .ok (.value v) w) (hS : S w)
  (h : wpUntil P md l.toArray Q S T fuel (listed.setIfInBounds i true) (a.put oi.dst v) w) : wpUntil P md l.toArray Q S T (fuel + 1) listed a w := by
 unfold takeB at hB
 simp only [Bool.and_eq_true] at hB
 obtain ⟨⟨⟨⟨hs, hf⟩, hr⟩, hc⟩, ht⟩ := hB
 refine wpUntil_first (drop_at hd) (Region.noSelect_spec hs) hQ (fun t htl htt => ?_) fuel listed a w (closedB_spec hc) (Region.free_spec (drop_at hd) hf) (by simpa using hr) (.inl ⟨hw, hy⟩) hS h
 have := List.all_eq_true.1 ht t (List.mem_range.2 htl)
 rw [htt] at this
 simpa using this
def pureB (md : Region.Mode) (ops : Array Oper) (listed : Array Bool) (i : Nat) : Bool := Region.noSelect ops && Region.free md ops listed i && (Region.ready md ops listed).contains i
theorem until_pure {l : List Oper} (i : Nat) {oi : Oper} {rest : List Oper} {v : Value} {fuel : Nat} {listed : Array Bool} {a : Act} {w : World} (hd : l.drop i = oi :: rest) (hB : pureB md l.toArray listed i = true)
  (hQ : ∀ c a w, Q (.panic c) (a.put oi.dst v) w → Q (.panic c) a w) (hw : Region.wanted oi (yielded l.toArray a.tmps) = true) (hy : ∀ w, (execOp a.eval oi).run P w = .ok (.value v) w)
  (h : wpUntil P md l.toArray Q S T fuel (listed.setIfInBounds i true) (a.put oi.dst v) w) : wpUntil P md l.toArray Q S T (fuel + 1) listed a w := by
 unfold pureB at hB
 simp only [Bool.and_eq_true] at hB
 obtain ⟨⟨hs, hf⟩, hr⟩ := hB
 exact wpUntil_pure (drop_at hd) (Region.noSelect_spec hs) hQ fuel listed a w (Region.free_spec (drop_at hd) hf) (by simpa using hr) (.inl ⟨hw, fun w _ => hy w⟩) h
theorem until_one {l : List Oper} (i : Nat) {oi : Oper} {rest : List Oper} {fuel : Nat} {listed : Array Bool} {a : Act} {w : World} (hd : l.drop i = oi :: rest) (hr : Region.ready md l.toArray listed = [i])
  (h : ∀ K : Act → World → Prop, Shut (∀ a' w', (T i = false → S w → S w') → wpUntil P md l.toArray Q S T fuel (listed.setIfInBounds i true) a' w' → K a' w') → if Region.wanted oi (yielded l.toArray a.tmps) = true then Oper.wp P oi a w K Q else K (a.put oi.dst undef) w) :
  wpUntil P md l.toArray Q S T (fuel + 1) listed a w := by
 refine ⟨fun h0 => (by rw [hr] at h0; cases h0), fun j hj => ?_⟩
 rw [hr] at hj
 obtain rfl : j = i := by simpa using hj
 exact wpOp_step (drop_at hd) (fun K hK => h K (fun a w h1 h2 => hK a w ⟨h1, h2⟩))
theorem until_two {l : List Oper} (i j : Nat) {oi oj : Oper} {rest rest' : List Oper} {fuel : Nat} {listed : Array Bool} {a : Act} {w : World} (hd : l.drop i = oi :: rest) (hd' : l.drop j = oj :: rest') (hr : Region.ready md l.toArray listed = [i, j])
  (h : ∀ K : Act → World → Prop, Shut (∀ a' w', (T i = false → S w → S w') → wpUntil P md l.toArray Q S T fuel (listed.setIfInBounds i true) a' w' → K a' w') → if Region.wanted oi (yielded l.toArray a.tmps) = true then Oper.wp P oi a w K Q else K (a.put oi.dst undef) w)
  (h' : ∀ K : Act → World → Prop, Shut (∀ a' w', (T j = false → S w → S w') → wpUntil P md l.toArray Q S T fuel (listed.setIfInBounds j true) a' w' → K a' w') → if Region.wanted oj (yielded l.toArray a.tmps) = true then Oper.wp P oj a w K Q else K (a.put oj.dst undef) w) :
  wpUntil P md l.toArray Q S T (fuel + 1) listed a w := by
 refine ⟨fun h0 => (by rw [hr] at h0; cases h0), fun k hk => ?_⟩
 rw [hr] at hk
 have : k = i ∨ k = j := by simpa using hk
 rcases this with rfl | rfl
 ·exact wpOp_step (drop_at hd) (fun K hK => h K (fun a w h1 h2 => hK a w ⟨h1, h2⟩))
 ·exact wpOp_step (drop_at hd') (fun K hK => h' K (fun a w h1 h2 => hK a w ⟨h1, h2⟩))
theorem until_done {listed : Array Bool} {a : Act} {w : World} (hr : Region.ready md ops listed = []) (h : Q .normal a w) : ∀ fuel, wpUntil P md ops Q S T fuel listed a w
 | 0 => ⟨hr, h⟩
 | _ + 1 => ⟨fun _ => h, by rw [hr]; simp⟩
theorem wp_region_until {id : Nat} {l : List Oper} {a : Act} {w : World} (S : World → Prop) (T : Nat → Bool) (n : Nat) (hn : l.length = n) (hm : P.follows .mixedOrders = true)
  (h : wpUntil P .any l.toArray Q S T n (Array.replicate n false) a w.drew) : (Code.region id l.toArray true).wp P Q a w := by
 subst hn
 exact wp_region_any hm (wpAny_of_until _ _ _ _ (by simpa using h))
end
end Go.Proofs.YtepffbgelaajnaaGreatDoor
