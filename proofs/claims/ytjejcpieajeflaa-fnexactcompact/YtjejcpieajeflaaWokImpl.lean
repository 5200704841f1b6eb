/-
  Contracts of impl.entriesOk and impl.WalOk: is the log right?
-/
import Derived.Test.YtjejcpieajeflaaRows
import Derived.Test.YtjejcpieajeflaaRcOf
import Derived.Test.YtjejcpieajeflaaWokSpec
namespace Go.Proofs.Ytjejcpieajeflaa
open Go.ChangeShapes Go.WideShapes Go.ChangeAt Go.RowKit Go.PlainAid
set_option linter.unusedVariables false

/-- The same, with a bound that is 1 at least. -/
def leOk (top : Int) : Int → List Ent → Bool
  | _, [] => true
  | least, e :: r => decide (least ≤ e.term) && decide (e.term ≤ top) && decide (e.data.size ≤ 900) && leOk top e.term r
theorem entsOk_le (top : Int) : ∀ (l : List Ent) (last : Int), entsOk top last l = leOk top (max last 1) l
  | [], _ => rfl
  | e :: r, last => by
    unfold entsOk leOk
    rw [entsOk_le top r e.term]
    by_cases h1 : 1 ≤ e.term
    · rw [Int.max_eq_left h1, decide_eq_true h1, Bool.true_and]
      congr 3
      rw [decide_eq_decide]
      omega
    · rw [decide_eq_false h1, decide_eq_false (show ¬ max last 1 ≤ e.term by omega)]
      simp
/-- What the next term is held against. -/
def leAt (bt : Int) (l : List Ent) (k : Nat) : Int := if k = 0 then max bt 1 else (l.getD (k - 1) default).term
theorem le_step (top last : Int) (l : List Ent) (k : Nat) (h : k < l.length) :
    leOk top last (l.drop k) = (decide (last ≤ (l.getD k default).term) && decide ((l.getD k default).term ≤ top) && decide ((l.getD k default).data.size ≤ 900) && leOk top (l.getD k default).term (l.drop (k + 1))) := by
  rw [List.drop_eq_getElem_cons h, ← getD_at l k h]
  rfl
theorem leAt_succ (bt : Int) (l : List Ent) (k : Nat) : leAt bt l (k + 1) = (l.getD k default).term := rfl
/-- What entriesOk asks. -/
def entsAll (x : Wl) : Bool := decide (x.ents.length ≤ 60) && decide (x.base + x.ents.length ≤ 100000) && entsOk x.term x.bterm x.ents

set_option maxHeartbeats 2000000 in
theorem entriesOkV (x : Wl) (v : Value) (w : World) (B : Nat) (hv : WalV w B v x) (hf : FitsW x) (hB : B ≤ w.heap.size) (hb1 : 0 ≤ x.base) (hb2 : x.base ≤ 100000) : Calls Try.prog 79 #[v] w fun e w' => e = .returned (.bool (entsAll x)) ∧ Below w.heap.size w w' := by
  obtain ⟨u, rfl, hl⟩ := hv
  obtain ⟨A, cap, rfl, hlk⟩ := ent_look hl
  have HL : Hid (∀ j, j < x.ents.length → ∃ g off, A = some ⟨g, off, none⟩ ∧ g < B ∧ _) := hlk
  have HB : Hid (B ≤ w.heap.size) := hB
  have hn0 := hf.n
  have HF : Hid (∀ e ∈ x.ents, e.data.size ≤ maxLen) := hf.d
  unfold maxLen at hn0
  have q1 : (x.ents.length : Int) ≤ 9223372036854775807 := by omega
  have HE : Hid (entsAll x = (decide (x.ents.length ≤ 60) && decide (x.base + x.ents.length ≤ 100000) && leOk x.term (max x.bterm 1) x.ents)) := by unfold Hid entsAll; rw [entsOk_le]
  clear hl hlk hB hf hn0
  generalize hN : x.ents.length = n at *
  have B0 : Hid (Below w.heap.size w (w.alloc (.cells #[.int .i64 x.term, .int .i64 x.vote, .int .i64 x.base, .int .i64 x.bterm, .slice A n cap] 35))) := (Below.refl _ _).alloc (Nat.le_refl _) _
  have K0 : Hid (Blk (w.alloc (.cells #[.int .i64 x.term, .int .i64 x.vote, .int .i64 x.base, .int .i64 x.bterm, .slice A n cap] 35)) w.heap.size #[.int .i64 x.term, .int .i64 x.vote, .int .i64 x.base, .int .i64 x.bterm, .slice A n cap] 35) := Blk.new _ _ _
  by_cases h5 : n ≤ 60
  rotate_left
  · rw [decide_eq_false h5] at HE
    have h5' : (60 : Int) < (n : Int) := by omega
    go_enter Try.func79, Try.ntmps79
    go_wp2_with fail
    go_ret
    exact ⟨by rw [HE.out]; rfl, B0.out⟩
  rw [decide_eq_true h5] at HE
  have h5' : (n : Int) ≤ 60 := by omega
  have hw1 : IntKind.i64.wrap (x.base + (n : Int)) = x.base + (n : Int) := by rw [IntKind.wrap_i64]; omega
  by_cases h6 : x.base + (n : Int) ≤ 100000
  rotate_left
  · rw [decide_eq_false h6] at HE
    have h6' : (100000 : Int) < x.base + (n : Int) := by omega
    go_enter Try.func79, Try.ntmps79
    go_wp2_with fail
    go_ret
    exact ⟨by rw [HE.out]; rfl, B0.out⟩
  rw [decide_eq_true h6] at HE
  have HE : Hid (entsAll x = leOk x.term (max x.bterm 1) x.ents) := by unfold Hid; rw [HE.out]; simp
  by_cases hm : 1 ≤ x.bterm
  all_goals try have hm2 : x.bterm < 1 := by omega
  all_goals
    go_enter Try.func79, Try.ntmps79
    go_wp2_with fail
    generalize w.alloc (.cells #[.int .i64 x.term, .int .i64 x.vote, .int .i64 x.base, .int .i64 x.bterm, .slice A n cap] 35) = W at *
    clear hw1 h6
    go_loopw [3, 25] (fun v3 v4 wr => ∃ k : Nat, k ≤ n ∧ v4 = .int .i64 (k : Int) ∧ v3 = .int .i64 (leAt x.bterm x.ents k) ∧ Hid (entsAll x = leOk x.term (leAt x.bterm x.ents k) (x.ents.drop k)) ∧ Below W.heap.size W wr) (fun _ i _ => n - (intOf i).toNat)
    case atStart => exact ⟨0, by omega, rfl, by first | rfl | (unfold leAt; simp [Int.max_def]; try omega), HE, Below.refl _ _⟩
    case round =>
      obtain ⟨k, hk, rfl, rfl, HR, hb⟩ := hrel
      have HB1 : Hid (Below W.heap.size W wr) := hb
      have hlt0 := K0.out.lt
      have c0 := (hb.cell (p := ⟨w.heap.size, 0, none⟩) hlt0).trans (K0.out.cell 0 (.int .i64 x.term) rfl)
      have hsz := hb.size
      clear hb hlt0
      by_cases hlt : k < n
      · have q4 : (k : Int) < (n : Int) := by omega
        obtain ⟨g, off, rfl, hg, hc0, hc1⟩ := HL.out k (by omega)
        have hgw : g < W.heap.size := Nat.lt_of_lt_of_le hg (Nat.le_trans HB.out B0.out.size)
        rw [← B0.out.cell (p := ⟨_, _, none⟩) (Nat.lt_of_lt_of_le hg HB.out), ← HB1.out.cell (p := ⟨_, _, none⟩) hgw] at hc0 hc1
        have HX := le_step x.term (leAt x.bterm x.ents k) x.ents k (by omega)
        have HX1 := leAt_succ x.bterm x.ents k
        have hds := HF.out _ (getD_mem x.ents k (by omega))
        unfold maxLen at hds
        have hdi : ((x.ents.getD k default).data.size : Int) ≤ 9223372036854775807 := by omega
        have HXX : Hid (entsAll x = (decide (leAt x.bterm x.ents k ≤ (x.ents.getD k default).term) && decide ((x.ents.getD k default).term ≤ x.term) && decide ((x.ents.getD k default).data.size ≤ 900) && leOk x.term (x.ents.getD k default).term (x.ents.drop (k + 1)))) := HR.out.trans HX
        have HXS : Hid (leAt x.bterm x.ents (k + 1) = (x.ents.getD k default).term) := HX1
        have HBF : Hid (Below w.heap.size w (wr.alloc (.cells #[.int .i64 (x.ents.getD k default).term, .string (x.ents.getD k default).data] 88))) := (B0.out.trans (HB1.out.mono B0.out.size)).alloc (Nat.le_trans B0.out.size HB1.out.size) _
        have HBG : Hid (Below W.heap.size W (wr.alloc (.cells #[.int .i64 (x.ents.getD k default).term, .string (x.ents.getD k default).data] 88))) := HB1.out.alloc HB1.out.size _
        clear HX HX1 HR hds
        generalize leAt x.bterm x.ents k = la at *
        generalize x.ents.getD k default = y at *
        obtain ⟨yt, yd⟩ := y
        simp only at hc0 hc1 HXX HXS HBF HBG hdi
        have hw0 : w.heap.size < wr.heap.size := Nat.lt_of_lt_of_le K0.out.lt hsz
        have hgr : g < wr.heap.size := Nat.lt_of_lt_of_le hgw hsz
        by_cases h8 : la ≤ yt
        rotate_left
        · rw [decide_eq_false h8] at HXX
          have h8' : yt < la := by omega
          clear h8
          have HXX : Hid (entsAll x = false) := by unfold Hid; rw [HXX.out]; simp
          go_wp2_with fail
          go_ret
          exact ⟨by rw [HXX.out]; rfl, HBF.out⟩
        rw [decide_eq_true h8] at HXX
        by_cases h9 : yt ≤ x.term
        rotate_left
        · rw [decide_eq_false h9] at HXX
          have h9' : x.term < yt := by omega
          clear h9
          have HXX : Hid (entsAll x = false) := by unfold Hid; rw [HXX.out]; simp
          go_wp2_with fail
          go_ret
          exact ⟨by rw [HXX.out]; rfl, HBF.out⟩
        rw [decide_eq_true h9] at HXX
        by_cases hz : (yd.size : Int) ≤ 900
        rotate_left
        · rw [decide_eq_false (show ¬ yd.size ≤ 900 by omega)] at HXX
          have hz' : 900 < (yd.size : Int) := by omega
          clear hz
          have HXX : Hid (entsAll x = false) := by unfold Hid; rw [HXX.out]; simp
          go_wp2_with fail
          go_ret
          exact ⟨by rw [HXX.out]; rfl, HBF.out⟩
        rw [decide_eq_true (show yd.size ≤ 900 by omega)] at HXX
        have HXX : Hid (entsAll x = leOk x.term yt (x.ents.drop (k + 1))) := by unfold Hid; rw [HXX.out]; simp
        go_wp2_with fail
        go_roundw
        case rel => exact ⟨k + 1, by omega, by go_num, by rw [HXS.out], by rw [HXS.out]; exact HXX, HBG.out⟩
        case measure => simp [intOf]; omega
      · obtain rfl : k = n := by omega
        have HXX : Hid (entsAll x = true) := by
          unfold Hid
          rw [HR.out, ← hN, List.drop_length]
          rfl
        clear HR
        generalize leAt x.bterm x.ents k = la at *
        go_wp2_with fail
        go_ret
        exact ⟨by rw [HXX.out]; rfl, B0.out.trans (HB1.out.mono B0.out.size)⟩

theorem below_alloc3' (w : World) (a b c : Obj) : Below w.heap.size w (((w.alloc a).alloc b).alloc c) := (((Below.refl _ w).alloc (Nat.le_refl _) a).alloc (by simp) b).alloc (by simp; omega) c
theorem recOk_hard (t v : Int) : recOk ⟨1, t, 0, v, ⟨#[]⟩⟩ = (inIt t 0 100000 && inIt v (-1) 4) := by
  show (inIt t 0 100000 && inIt v (-1) 4 && decide ((0 : Int) = 0) && decide ((⟨#[]⟩ : ByteArray) = ByteArray.empty)) = _
  rw [decide_eq_true (show (0 : Int) = 0 from rfl), decide_eq_true (show (⟨#[]⟩ : ByteArray) = ByteArray.empty from rfl), Bool.and_true, Bool.and_true]
theorem recOk_base (i t : Int) : recOk ⟨4, t, i, 0, ⟨#[]⟩⟩ = based i t := by
  show (based i t && decide ((0 : Int) = 0) && decide ((⟨#[]⟩ : ByteArray) = ByteArray.empty)) = _
  rw [decide_eq_true (show (0 : Int) = 0 from rfl), decide_eq_true (show (⟨#[]⟩ : ByteArray) = ByteArray.empty from rfl), Bool.and_true, Bool.and_true]

set_option maxHeartbeats 2000000 in
theorem implWalOk (x : Wl) (v : Value) (w : World) (B : Nat) (hv : WalV w B v x) (hf : FitsW x) (hB : B ≤ w.heap.size) : Calls Try.prog 47 #[v] w fun e w' => e = .returned (.bool (walOk x)) ∧ Below w.heap.size w w' := by
  obtain ⟨u, rfl, hl⟩ := hv
  have HL : Hid (Lies w B 2 u (entR x.ents)) := hl
  have HF : Hid (FitsW x) := hf
  have HB : Hid (B ≤ w.heap.size) := hB
  have HE : Hid (walOk x = ((inIt x.term 0 100000 && inIt x.vote (-1) 4) && based x.base x.bterm && decide (x.bterm ≤ x.term) && entsAll x)) := by
    unfold Hid walOk entsAll
    simp only [Bool.and_assoc]
  have a1 := fun wx => implRecOk ⟨1, x.term, 0, x.vote, ⟨#[]⟩⟩ wx (by show (0 : Nat) ≤ _; exact Nat.zero_le _)
  have a2 := fun wx => implRecOk ⟨4, x.bterm, x.base, 0, ⟨#[]⟩⟩ wx (by show (0 : Nat) ≤ _; exact Nat.zero_le _)
  rw [recOk_hard] at a1
  rw [recOk_base] at a2
  unfold vRcd at a1 a2
  simp only at a1 a2
  clear hl hf hB
  cases h1 : (inIt x.term 0 100000 && inIt x.vote (-1) 4) <;> rw [h1] at a1 HE
  · clear h1
    go_enter Try.func47, Try.ntmps47
    go_wp2_with fail
    have B0 := below_alloc3' w (.cells #[.int .i64 x.term, .int .i64 x.vote, .int .i64 x.base, .int .i64 x.bterm, u] 35) (.cells #[.int .i64 1, .int .i64 x.term, .int .i64 0, .int .i64 x.vote, .string ⟨#[]⟩] 91) (.cells #[.int .i64 4, .int .i64 x.bterm, .int .i64 x.base, .int .i64 0, .string ⟨#[]⟩] 91)
    have k0 := ((Blk.new w #[.int .i64 x.term, .int .i64 x.vote, .int .i64 x.base, .int .i64 x.bterm, u] 35).alloc (.cells #[.int .i64 1, .int .i64 x.term, .int .i64 0, .int .i64 x.vote, .string ⟨#[]⟩] 91)).alloc (.cells #[.int .i64 4, .int .i64 x.bterm, .int .i64 x.base, .int .i64 0, .string ⟨#[]⟩] 91)
    have k2 := Blk.new ((w.alloc (.cells #[.int .i64 x.term, .int .i64 x.vote, .int .i64 x.base, .int .i64 x.bterm, u] 35)).alloc (.cells #[.int .i64 1, .int .i64 x.term, .int .i64 0, .int .i64 x.vote, .string ⟨#[]⟩] 91)) #[.int .i64 4, .int .i64 x.bterm, .int .i64 x.base, .int .i64 0, .string ⟨#[]⟩] 91
    simp only [World.size_alloc] at k2
    generalize ((w.alloc (.cells #[.int .i64 x.term, .int .i64 x.vote, .int .i64 x.base, .int .i64 x.bterm, u] 35)).alloc (.cells #[.int .i64 1, .int .i64 x.term, .int .i64 0, .int .i64 x.vote, .string ⟨#[]⟩] 91)).alloc (.cells #[.int .i64 4, .int .i64 x.bterm, .int .i64 x.base, .int .i64 0, .string ⟨#[]⟩] 91) = W at *
    refine (a1 W).mono ?_
    rintro e w1 ⟨rfl, hb1⟩
    have B1 : Hid (Below w.heap.size w w1) := B0.trans (hb1.mono B0.size)
    clear B0 hb1 k0 k2
    go_wp2_with fail
    go_ret
    exact ⟨by rw [HE.out]; rfl, B1.out⟩
  clear h1
  cases h3 : based x.base x.bterm <;> rw [h3] at a2 HE
  · clear h3
    go_enter Try.func47, Try.ntmps47
    go_wp2_with fail
    have B0 := below_alloc3' w (.cells #[.int .i64 x.term, .int .i64 x.vote, .int .i64 x.base, .int .i64 x.bterm, u] 35) (.cells #[.int .i64 1, .int .i64 x.term, .int .i64 0, .int .i64 x.vote, .string ⟨#[]⟩] 91) (.cells #[.int .i64 4, .int .i64 x.bterm, .int .i64 x.base, .int .i64 0, .string ⟨#[]⟩] 91)
    have k0 := ((Blk.new w #[.int .i64 x.term, .int .i64 x.vote, .int .i64 x.base, .int .i64 x.bterm, u] 35).alloc (.cells #[.int .i64 1, .int .i64 x.term, .int .i64 0, .int .i64 x.vote, .string ⟨#[]⟩] 91)).alloc (.cells #[.int .i64 4, .int .i64 x.bterm, .int .i64 x.base, .int .i64 0, .string ⟨#[]⟩] 91)
    have k2 := Blk.new ((w.alloc (.cells #[.int .i64 x.term, .int .i64 x.vote, .int .i64 x.base, .int .i64 x.bterm, u] 35)).alloc (.cells #[.int .i64 1, .int .i64 x.term, .int .i64 0, .int .i64 x.vote, .string ⟨#[]⟩] 91)) #[.int .i64 4, .int .i64 x.bterm, .int .i64 x.base, .int .i64 0, .string ⟨#[]⟩] 91
    simp only [World.size_alloc] at k2
    generalize ((w.alloc (.cells #[.int .i64 x.term, .int .i64 x.vote, .int .i64 x.base, .int .i64 x.bterm, u] 35)).alloc (.cells #[.int .i64 1, .int .i64 x.term, .int .i64 0, .int .i64 x.vote, .string ⟨#[]⟩] 91)).alloc (.cells #[.int .i64 4, .int .i64 x.bterm, .int .i64 x.base, .int .i64 0, .string ⟨#[]⟩] 91) = W at *
    refine (a1 W).mono ?_
    rintro e w1 ⟨rfl, hb1⟩
    have B1 : Hid (Below w.heap.size w w1) := B0.trans (hb1.mono B0.size)
    have K1 : Hid (Blk w1 w.heap.size #[.int .i64 x.term, .int .i64 x.vote, .int .i64 x.base, .int .i64 x.bterm, u] 35) := k0.on hb1 k0.lt
    have l2 := k2.on hb1 k2.lt
    have e0 := l2.cell 0 (.int .i64 4) rfl
    have e1 := l2.cell 1 (.int .i64 x.bterm) rfl
    have e2 := l2.cell 2 (.int .i64 x.base) rfl
    have e3 := l2.cell 3 (.int .i64 0) rfl
    have e4 := l2.cell 4 (.string ⟨#[]⟩) rfl
    clear B0 hb1 k0 k2 l2
    go_wp2_with fail
    refine (a2 w1).mono ?_
    rintro e w2 ⟨rfl, hb2⟩
    have B2 : Hid (Below w.heap.size w w2) := B1.out.trans (hb2.mono B1.out.size)
    have k2 := K1.out.on hb2 K1.out.lt
    clear e0 e1 e2 e3 e4 hb2
    have e0 := k2.cell 0 (.int .i64 x.term) rfl
    have e1 := k2.cell 1 (.int .i64 x.vote) rfl
    have e2 := k2.cell 2 (.int .i64 x.base) rfl
    have e3 := k2.cell 3 (.int .i64 x.bterm) rfl
    have e4 := k2.cell 4 (u) rfl
    clear k2
    go_wp2_with fail
    go_ret
    exact ⟨by rw [HE.out]; rfl, B2.out⟩
  obtain ⟨⟨b1, b2⟩, _⟩ := based_in _ _ h3
  clear h3
  by_cases h4 : x.bterm ≤ x.term
  rotate_left
  · rw [decide_eq_false h4] at HE
    have h4' : x.term < x.bterm := by omega
    have z4 : decide (x.bterm ≤ x.term) = false := decide_eq_false h4
    clear h4
    go_enter Try.func47, Try.ntmps47
    go_wp2_with fail
    have B0 := below_alloc3' w (.cells #[.int .i64 x.term, .int .i64 x.vote, .int .i64 x.base, .int .i64 x.bterm, u] 35) (.cells #[.int .i64 1, .int .i64 x.term, .int .i64 0, .int .i64 x.vote, .string ⟨#[]⟩] 91) (.cells #[.int .i64 4, .int .i64 x.bterm, .int .i64 x.base, .int .i64 0, .string ⟨#[]⟩] 91)
    have k0 := ((Blk.new w #[.int .i64 x.term, .int .i64 x.vote, .int .i64 x.base, .int .i64 x.bterm, u] 35).alloc (.cells #[.int .i64 1, .int .i64 x.term, .int .i64 0, .int .i64 x.vote, .string ⟨#[]⟩] 91)).alloc (.cells #[.int .i64 4, .int .i64 x.bterm, .int .i64 x.base, .int .i64 0, .string ⟨#[]⟩] 91)
    have k2 := Blk.new ((w.alloc (.cells #[.int .i64 x.term, .int .i64 x.vote, .int .i64 x.base, .int .i64 x.bterm, u] 35)).alloc (.cells #[.int .i64 1, .int .i64 x.term, .int .i64 0, .int .i64 x.vote, .string ⟨#[]⟩] 91)) #[.int .i64 4, .int .i64 x.bterm, .int .i64 x.base, .int .i64 0, .string ⟨#[]⟩] 91
    simp only [World.size_alloc] at k2
    generalize ((w.alloc (.cells #[.int .i64 x.term, .int .i64 x.vote, .int .i64 x.base, .int .i64 x.bterm, u] 35)).alloc (.cells #[.int .i64 1, .int .i64 x.term, .int .i64 0, .int .i64 x.vote, .string ⟨#[]⟩] 91)).alloc (.cells #[.int .i64 4, .int .i64 x.bterm, .int .i64 x.base, .int .i64 0, .string ⟨#[]⟩] 91) = W at *
    refine (a1 W).mono ?_
    rintro e w1 ⟨rfl, hb1⟩
    have B1 : Hid (Below w.heap.size w w1) := B0.trans (hb1.mono B0.size)
    have K1 : Hid (Blk w1 w.heap.size #[.int .i64 x.term, .int .i64 x.vote, .int .i64 x.base, .int .i64 x.bterm, u] 35) := k0.on hb1 k0.lt
    have l2 := k2.on hb1 k2.lt
    have e0 := l2.cell 0 (.int .i64 4) rfl
    have e1 := l2.cell 1 (.int .i64 x.bterm) rfl
    have e2 := l2.cell 2 (.int .i64 x.base) rfl
    have e3 := l2.cell 3 (.int .i64 0) rfl
    have e4 := l2.cell 4 (.string ⟨#[]⟩) rfl
    clear B0 hb1 k0 k2 l2
    go_wp2_with fail
    refine (a2 w1).mono ?_
    rintro e w2 ⟨rfl, hb2⟩
    have B2 : Hid (Below w.heap.size w w2) := B1.out.trans (hb2.mono B1.out.size)
    have k2 := K1.out.on hb2 K1.out.lt
    clear e0 e1 e2 e3 e4 hb2
    have e0 := k2.cell 0 (.int .i64 x.term) rfl
    have e1 := k2.cell 1 (.int .i64 x.vote) rfl
    have e2 := k2.cell 2 (.int .i64 x.base) rfl
    have e3 := k2.cell 3 (.int .i64 x.bterm) rfl
    have e4 := k2.cell 4 (u) rfl
    clear k2
    go_wp2_with fail
    go_ret
    exact ⟨by rw [HE.out]; rfl, B2.out⟩
  rw [decide_eq_true h4] at HE
  go_enter Try.func47, Try.ntmps47
  go_wp2_with fail
  have B0 := below_alloc3' w (.cells #[.int .i64 x.term, .int .i64 x.vote, .int .i64 x.base, .int .i64 x.bterm, u] 35) (.cells #[.int .i64 1, .int .i64 x.term, .int .i64 0, .int .i64 x.vote, .string ⟨#[]⟩] 91) (.cells #[.int .i64 4, .int .i64 x.bterm, .int .i64 x.base, .int .i64 0, .string ⟨#[]⟩] 91)
  have k0 := ((Blk.new w #[.int .i64 x.term, .int .i64 x.vote, .int .i64 x.base, .int .i64 x.bterm, u] 35).alloc (.cells #[.int .i64 1, .int .i64 x.term, .int .i64 0, .int .i64 x.vote, .string ⟨#[]⟩] 91)).alloc (.cells #[.int .i64 4, .int .i64 x.bterm, .int .i64 x.base, .int .i64 0, .string ⟨#[]⟩] 91)
  have k2 := Blk.new ((w.alloc (.cells #[.int .i64 x.term, .int .i64 x.vote, .int .i64 x.base, .int .i64 x.bterm, u] 35)).alloc (.cells #[.int .i64 1, .int .i64 x.term, .int .i64 0, .int .i64 x.vote, .string ⟨#[]⟩] 91)) #[.int .i64 4, .int .i64 x.bterm, .int .i64 x.base, .int .i64 0, .string ⟨#[]⟩] 91
  simp only [World.size_alloc] at k2
  generalize ((w.alloc (.cells #[.int .i64 x.term, .int .i64 x.vote, .int .i64 x.base, .int .i64 x.bterm, u] 35)).alloc (.cells #[.int .i64 1, .int .i64 x.term, .int .i64 0, .int .i64 x.vote, .string ⟨#[]⟩] 91)).alloc (.cells #[.int .i64 4, .int .i64 x.bterm, .int .i64 x.base, .int .i64 0, .string ⟨#[]⟩] 91) = W at *
  refine (a1 W).mono ?_
  rintro e w1 ⟨rfl, hb1⟩
  have B1 : Hid (Below w.heap.size w w1) := B0.trans (hb1.mono B0.size)
  have K1 : Hid (Blk w1 w.heap.size #[.int .i64 x.term, .int .i64 x.vote, .int .i64 x.base, .int .i64 x.bterm, u] 35) := k0.on hb1 k0.lt
  have l2 := k2.on hb1 k2.lt
  have e0 := l2.cell 0 (.int .i64 4) rfl
  have e1 := l2.cell 1 (.int .i64 x.bterm) rfl
  have e2 := l2.cell 2 (.int .i64 x.base) rfl
  have e3 := l2.cell 3 (.int .i64 0) rfl
  have e4 := l2.cell 4 (.string ⟨#[]⟩) rfl
  clear B0 hb1 k0 k2 l2
  go_wp2_with fail
  refine (a2 w1).mono ?_
  rintro e w2 ⟨rfl, hb2⟩
  have B2 : Hid (Below w.heap.size w w2) := B1.out.trans (hb2.mono B1.out.size)
  have k2 := K1.out.on hb2 K1.out.lt
  clear e0 e1 e2 e3 e4 hb2
  have e0 := k2.cell 0 (.int .i64 x.term) rfl
  have e1 := k2.cell 1 (.int .i64 x.vote) rfl
  have e2 := k2.cell 2 (.int .i64 x.base) rfl
  have e3 := k2.cell 3 (.int .i64 x.bterm) rfl
  have e4 := k2.cell 4 (u) rfl
  clear k2
  go_wp2_with fail
  refine (entriesOkV x (.agg #[.int .i64 x.term, .int .i64 x.vote, .int .i64 x.base, .int .i64 x.bterm, u]) w2 B ⟨u, rfl, HL.out.on (B2.out.mono HB.out)⟩ HF.out (Nat.le_trans HB.out B2.out.size) b1 b2).mono ?_
  rintro e w3 ⟨rfl, hb3⟩
  have B3 : Hid (Below w.heap.size w w3) := B2.out.trans (hb3.mono B2.out.size)
  clear hb3
  have HE : Hid (walOk x = entsAll x) := by unfold Hid; rw [HE.out]; simp
  generalize entsAll x = z at *
  go_wp2_with fail
  go_ret
  exact ⟨by rw [HE.out]; first | rfl | simp, B3.out⟩
end Go.Proofs.Ytjejcpieajeflaa
