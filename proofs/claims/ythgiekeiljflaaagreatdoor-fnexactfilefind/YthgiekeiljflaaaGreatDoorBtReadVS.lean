/-
  Contract of spec.ReadValues.
-/
import Derived.Test.YthgiekeiljflaaaGreatDoorRows
import Derived.Test.YthgiekeiljflaaaGreatDoorGB
import Derived.Test.YthgiekeiljflaaaGreatDoorGD
namespace Go.Proofs.YthgiekeiljflaaaGreatDoor
open Go.ChangeShapes Go.WideShapes Go.ChangeAt Go.RowKit Go.PlainAid
set_option linter.unusedVariables false

set_option maxHeartbeats 400000 in
theorem spec_l7Un (z : Int) (w : World) (hn1 : -9223372036854775808 ≤ z) (hn2 : z ≤ 9223372036854775807) : Calls Tryz.prog 72 #[.int .i64 z] w fun e w' => e = .returned (.int .i64 (unz z)) ∧ w = w' := by
  have c := fun wx => spec_unz z wx hn1 hn2
  generalize unz z = y at *
  generalize zok z = b at *
  go_enter Tryz.func72, Tryz.ntmps72
  go_wp2_with fail
  refine (c _).mono ?_
  rintro e w1 ⟨rfl, rfl⟩
  go_wp2_with fail
  go_ret
  exact ⟨rfl, rfl⟩
theorem rv_prv (v : List Int) (k : Nat) : (if k = 0 then 0 else rv v (k - 1)) + unz (v.getD k 0) = rv v k := by
  cases k with
  | zero => rw [if_pos rfl]; unfold rv; omega
  | succ k => rw [if_neg (by omega)]; rfl

set_option maxHeartbeats 2000000 in
theorem specReadValues_no (s : ByteArray) (n : Int) (w : World) (h : n < 1 ∨ 60 < n) : Calls Tryz.prog 54 #[.string s, .int .i64 n] w fun e w' => (∃ l k u, RdAns showV rowV s n l k ∧ e = .returned (.tuple #[u, .int .i64 (k : Int)]) ∧ Nums w' w.heap.size u l) ∧ Below w.heap.size w w' := by
  have c := fun wx => in_no n 1 60 wx h
  have H : Hid (n < 1 ∨ 60 < n) := h
  clear h
  go_enter Tryz.func54, Tryz.ntmps54
  go_wp2_with fail
  refine (c _).mono ?_
  rintro e w1 ⟨rfl, rfl⟩
  go_wp2_with fail
  go_ret2
  exact ⟨⟨[], 0, _, RdAns.none H.out, rfl, Nums.empty _ _ (Nat.le_refl _)⟩, (Below.refl _ _).alloc (Nat.le_refl _) _⟩

set_option maxHeartbeats 2000000 in
theorem specReadValues (s : ByteArray) (m : Nat) (w : World) (hs : s.size ≤ 1048576) (h1 : 1 ≤ m) (h2 : m ≤ 60) : Calls Tryz.prog 54 #[.string s, .int .i64 (m : Int)] w fun e w' => (∃ l k u, RdAns showV rowV s (m : Int) l k ∧ e = .returned (.tuple #[u, .int .i64 (k : Int)]) ∧ Nums w' w.heap.size u l) ∧ Below w.heap.size w w' := by
  have c := fun wx => in_yes (m : Int) 1 60 wx (by omega) (by omega)
  have cR := fun wx => specReadVars s m wx hs h1 h2
  have q1 : (1 : Int) ≤ (m : Int) := by omega
  have q2 : (m : Int) ≤ 60 := by omega
  have q3 : (s.size : Int) ≤ 1048576 := by omega
  have HM : Hid (1 ≤ m ∧ m ≤ 60) := ⟨h1, h2⟩
  have N0 := Nums.empty w w.heap.size (Nat.le_refl _)
  have b0 : Below w.heap.size w (w.alloc (.cells #[] 3)) := (Below.refl _ _).alloc (Nat.le_refl _) _
  have z0 : w.heap.size < (w.alloc (.cells #[] 3)).heap.size := by simp
  clear hs
  go_enter Tryz.func54, Tryz.ntmps54
  go_wp2_with fail
  refine (c _).mono ?_
  rintro e w0 ⟨rfl, rfl⟩
  go_wp2_with fail
  generalize w.alloc (.cells #[] 3) = W at *
  refine (cR _).mono ?_
  rintro e w1 ⟨hR, hb1⟩
  have B1 : Hid (Below w.heap.size w w1) := b0.trans (hb1.mono b0.size)
  have E1 : Hid (Nums w1 w.heap.size (.slice (some ⟨w.heap.size, 0, none⟩) 0 0) []) := N0.on hb1
  have Z1 : Hid (w.heap.size < w1.heap.size) := Nat.lt_of_lt_of_le z0 hb1.size
  have ZW : Hid (w.heap.size ≤ W.heap.size) := b0.size
  clear hb1 cR c N0 b0 z0
  rcases hR with ⟨v, k, u, hR, rfl, hNv⟩ | ⟨hno, u, rfl⟩
  · have HR : Hid (Rd s m v k) := hR
    have HNV : Hid (Nums w1 W.heap.size u v) := hNv
    obtain ⟨Av, cv, rfl, _, _⟩ := hNv.shape
    have hvl := hR.length
    have HVL : Hid (v.length = m) := hvl
    rw [hvl] at HNV
    rw [hvl]
    have hkk := hR.le
    have q4 : (0 : Int) ≤ (k : Int) := by omega
    have q5 : (k : Int) ≤ (s.size : Int) := by omega
    have HK : Hid (1 ≤ k ∧ k ≤ s.size) := ⟨by omega, by omega⟩
    have N2 := Nums.empty w1 w1.heap.size (Nat.le_refl _)
    have b2 : Below w1.heap.size w1 (w1.alloc (.cells #[] 3)) := (Below.refl _ _).alloc (Nat.le_refl _) _
    have ST : Hid (Nums (w1.alloc (.cells #[] 3)) w1.heap.size (.slice (some ⟨w1.heap.size, 0, none⟩) 0 0) [] ∧ Below w1.heap.size w1 (w1.alloc (.cells #[] 3))) := ⟨N2, b2⟩
    clear hR hNv hvl hkk N2 b2
    go_wp2_with fail
    generalize w1.alloc (.cells #[] 3) = W2 at *
    go_loopw [9, 10, 11] (fun v9 v10 v11 wr => ∃ j : Nat, j ≤ m ∧ v11 = .int .i64 (j : Int) ∧ v10 = .int .i64 (if j = 0 then 0 else rv v (j - 1)) ∧ Nums wr w1.heap.size v9 (rowOf (rv v) j) ∧ Below w1.heap.size w1 wr) (fun _ _ i _ => m - (intOf i).toNat)
    case atStart => exact ⟨0, by omega, rfl, rfl, ST.out.1, ST.out.2⟩
    case round =>
      obtain ⟨j, hj, rfl, rfl, hN, hb⟩ := hrel
      have HB : Hid (Below w1.heap.size w1 wr) := hb
      have HN : Hid (Nums wr w1.heap.size _ (rowOf (rv v) j)) := hN
      obtain ⟨A9, c9, rfl, _, _⟩ := hN.shape
      rw [rowOf_length] at HN
      rw [rowOf_length]
      clear hN
      by_cases hlt : j < m
      · have q6 : (j : Int) < (m : Int) := by omega
        have hNv := HNV.out.on hb
        obtain ⟨gv, rfl, _, _⟩ := hNv.block (by rw [HVL.out]; omega)
        have e1 := hNv.cell j (by rw [HVL.out]; exact hlt)
        have hbd := HR.out.boundD j
        have cU := fun wx => spec_l7Un (v.getD j 0) wx (by omega) (by omega)
        have er := rv_prv v j
        have hub := unz_range (v.getD j 0)
        have hrb := rv_bound v j
        have HRV : Hid (rowOf (rv v) (j + 1) = rowOf (rv v) j ++ [rv v j]) := rowOf_succ _ _
        have HNX : Hid ((if j + 1 = 0 then 0 else rv v (j + 1 - 1)) = rv v j) := by unfold Hid; rw [if_neg (by omega), Nat.add_sub_cancel]
        have HLJ : Hid ((rowOf (rv v) j).length ≤ 2097152) := by unfold Hid; rw [rowOf_length]; omega
        have HZR : Hid (w1.heap.size ≤ wr.heap.size) := hb.size
        generalize unz (v.getD j 0) = uu at *
        generalize v.getD j 0 = x at *
        generalize (if j = 0 then 0 else rv v (j - 1)) = la at *
        have g1 : wrap64 (la + uu) = rv v j := by unfold wrap64; omega
        have er2 : la + uu = rv v j := er
        clear hNv hb er hbd
        by_cases hin : rv v j < -1099511627776 ∨ 1099511627776 < rv v j
        · have cI := fun wx => in_no (rv v j) (-1099511627776) 1099511627776 wx hin
          have HANS : Hid (RdAns showV rowV s (m : Int) [] 0) := RdAns.other HR.out (by rw [showV_out v j (by rw [HVL.out]; exact hlt) hin]; exact extract_ne s k HK.out.1 HK.out.2)
          have E3 : Hid (Nums wr w.heap.size (.slice (some ⟨w.heap.size, 0, none⟩) 0 0) []) := E1.out.under (Nat.le_refl _) HB.out
          have B3 : Hid (Below w.heap.size w wr) := B1.out.trans (HB.out.mono (Nat.le_of_lt Z1.out))
          clear hin
          generalize rv v j = rj at *
          go_wp2_with fail
          refine (cU _).mono ?_
          rintro e w3 ⟨rfl, rfl⟩
          go_wp2_with fail
          refine (cI _).mono ?_
          rintro e w3 ⟨rfl, rfl⟩
          go_wp2_with fail
          go_ret2
          exact ⟨⟨[], 0, _, HANS.out, rfl, E3.out⟩, B3.out⟩
        · have cI := fun wx => in_yes (rv v j) (-1099511627776) 1099511627776 wx (by omega) (by omega)
          clear hin
          generalize rv v j = rj at *
          go_wp2_with fail
          refine (cU _).mono ?_
          rintro e w3 ⟨rfl, rfl⟩
          go_wp2_with fail
          refine (cI _).mono ?_
          rintro e w3 ⟨rfl, rfl⟩
          go_wp2_with (at_builtin; refine wpList_append_num rfl (.tmp 43) (.tmp 45) 57 rfl Tryz.underlying57 Tryz.infoInt w1.heap.size _ (rowOf (rv v) j) rfl HN.out rj rfl HLJ.out HZR.out ?_; intro v' w4 hN4 hb4 hk4)
          go_roundw
          case rel => exact ⟨j + 1, by omega, by go_num, by rw [HNX.out], by rw [HRV.out]; exact hN4, HB.out.trans hb4⟩
          case measure => simp [intOf]; omega
      · obtain rfl : j = m := by omega
        have HROW : Hid (rowOf (rv v) j = rowV v) := by unfold Hid rowV; rw [HVL.out]
        have HN9 : Hid (Nums wr w1.heap.size (.slice A9 j c9) (rowV v)) := by unfold Hid; rw [← HROW.out]; exact HN.out
        have cS := fun wx hx => specShowValues (rowV v) (.slice A9 j c9) wx wx.heap.size hx (by rw [rowV_length, HVL.out]; have := HM.out; omega) (Nat.le_refl _)
        have B3 : Hid (Below w.heap.size w wr) := B1.out.trans (HB.out.mono (Nat.le_of_lt Z1.out))
        have E3 : Hid (Nums wr w.heap.size (.slice (some ⟨w.heap.size, 0, none⟩) 0 0) []) := E1.out.under (Nat.le_refl _) HB.out
        clear hb
        by_cases heq : showV (rowV v) = s.extract 0 k
        · have HANS : Hid (RdAns showV rowV s (j : Int) (rowV v) k) := RdAns.yes HM.out.1 HM.out.2 HR.out heq
          have hq := bytes_eq heq
          clear heq
          generalize showV (rowV v) = sv at *
          go_wp2_with fail
          go_region_held3 (fun _ => True) (exact True.intro) ((go_at_call 59; refine (cS wr.drew ((HN9.out.heap rfl).lies)).mono ?_; rintro e w5 ⟨rfl, hb5⟩))
          all_goals
            have B5 : Hid (Below w.heap.size w w5) := B3.out.drew.trans (hb5.mono B3.out.size)
            have N5 : Hid (Nums w5 w1.heap.size (.slice A9 j c9) (rowV v)) := (HN9.out.heap (w' := wr.drew) rfl).on hb5
            clear hb5
            go_wp2_with fail
            go_ret2
            exact ⟨⟨_, k, _, HANS.out, rfl, N5.out.mono (Nat.le_of_lt Z1.out)⟩, B5.out⟩
        · have HANS : Hid (RdAns showV rowV s (j : Int) [] 0) := RdAns.other HR.out heq
          have hq := bytes_ne heq
          clear heq
          generalize showV (rowV v) = sv at *
          go_wp2_with fail
          go_region_held3 (fun _ => True) (exact True.intro) ((go_at_call 59; refine (cS wr.drew ((HN9.out.heap rfl).lies)).mono ?_; rintro e w5 ⟨rfl, hb5⟩))
          all_goals
            have B5 : Hid (Below w.heap.size w w5) := B3.out.drew.trans (hb5.mono B3.out.size)
            have E5 : Hid (Nums w5 w.heap.size (.slice (some ⟨w.heap.size, 0, none⟩) 0 0) []) := (E3.out.heap (w' := wr.drew) rfl).on hb5
            clear hb5
            go_wp2_with fail
            go_ret2
            exact ⟨⟨[], 0, _, HANS.out, rfl, E5.out⟩, B5.out⟩
  · have HANS : Hid (RdAns showV rowV s (m : Int) [] 0) := RdAns.few hno
    clear hno
    go_wp2_with fail
    go_ret2
    exact ⟨⟨[], 0, _, HANS.out, rfl, E1.out⟩, B1.out⟩
end Go.Proofs.YthgiekeiljflaaaGreatDoor
