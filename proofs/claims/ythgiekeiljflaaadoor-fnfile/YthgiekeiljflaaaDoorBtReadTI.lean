/-
  Contract of impl.ReadTimes.
-/
import Derived.Test.YthgiekeiljflaaaDoorRows
import Derived.Test.YthgiekeiljflaaaDoorGB
import Derived.Test.YthgiekeiljflaaaDoorGD
namespace Go.Proofs.YthgiekeiljflaaaDoor
open Go.ChangeShapes Go.WideShapes Go.ChangeAt Go.RowKit Go.PlainAid
set_option linter.unusedVariables false

set_option maxHeartbeats 2000000 in
theorem implReadTimes_no (s : ByteArray) (n : Int) (w : World) (h : n < 1 ∨ 60 < n) : Calls Tryd.prog 75 #[.string s, .int .i64 n] w fun e w' => (∃ l k u, RdAns showT rowT s n l k ∧ e = .returned (.tuple #[u, .int .i64 (k : Int)]) ∧ Nums w' w.heap.size u l) ∧ Below w.heap.size w w' := by
  have c := fun wx => implReadVars_no s n wx h
  have H : Hid (n < 1 ∨ 60 < n) := h
  clear h
  go_enter Tryd.func75, Tryd.ntmps75
  go_wp2_with fail
  refine (c _).mono ?_
  rintro e w1 ⟨rfl, rfl⟩
  go_wp2_with fail
  go_ret2
  exact ⟨⟨[], 0, _, RdAns.none H.out, rfl, Nums.nil _ _⟩, Below.refl _ _⟩

set_option maxHeartbeats 8000000 in
theorem implReadTimes (s : ByteArray) (m : Nat) (w : World) (hs : s.size ≤ 1048576) (h1 : 1 ≤ m) (h2 : m ≤ 60) : Calls Tryd.prog 75 #[.string s, .int .i64 (m : Int)] w fun e w' => (∃ l k u, RdAns showT rowT s (m : Int) l k ∧ e = .returned (.tuple #[u, .int .i64 (k : Int)]) ∧ Nums w' w.heap.size u l) ∧ Below w.heap.size w w' := by
  have cR := fun wx => implReadVars s m wx hs h1 h2
  have q1 : (1 : Int) ≤ (m : Int) := by omega
  have q2 : (m : Int) ≤ 60 := by omega
  have q3 : (s.size : Int) ≤ 1048576 := by omega
  have HM : Hid (1 ≤ m ∧ m ≤ 60) := ⟨h1, h2⟩
  clear hs
  go_enter Tryd.func75, Tryd.ntmps75
  go_wp2_with fail
  refine (cR _).mono ?_
  rintro e w1 ⟨hR, hb1⟩
  have B1 : Hid (Below w.heap.size w w1) := hb1
  clear hb1 cR
  rcases hR with ⟨v, k, u, hR, rfl, hNv⟩ | ⟨hno, rfl⟩
  · have HR : Hid (Rd s m v k) := hR
    have hvl := hR.length
    obtain ⟨Av, cv, rfl, _, _⟩ := hNv.shape
    obtain ⟨gv, rfl, hgv, _⟩ := hNv.block (by omega)
    have HVL : Hid (v.length = m) := hvl
    rw [hvl] at hNv
    rw [hvl]
    have HNV : Hid (Nums w1 w.heap.size (.slice (some ⟨gv, 0, none⟩) m cv) v) := hNv
    have HGV : Hid (w.heap.size ≤ gv) := hgv
    have hkk := hR.le
    have q4 : (0 : Int) ≤ (k : Int) := by omega
    have q5 : (k : Int) ≤ (s.size : Int) := by omega
    have q6 : ¬ (k : Int) = 0 := by omega
    have q7 : ¬ k = 0 := by omega
    have HK : Hid (1 ≤ k ∧ k ≤ s.size) := ⟨by omega, by omega⟩
    have HBD : Hid (∀ j, -9223372036854775808 ≤ v.getD j 0 ∧ v.getD j 0 ≤ 9223372036854775807) := fun j => by have := hR.boundD j; omega
    clear hR hNv hvl hkk hgv
    obtain ⟨mm, hmm⟩ : ∃ mm, mm = min 2 v.length := ⟨_, rfl⟩
    have hmin : min (2 : Int) (m : Int) = (mm : Int) := by rw [hmm, HVL.out]; omega
    have hmle : mm ≤ m := by rw [hmm, HVL.out]; omega
    have hm1 : 1 ≤ mm := by rw [hmm, HVL.out]; omega
    have qm : (mm : Int) ≤ (m : Int) := by omega
    have hcv : m ≤ cv := by have := HVL.out; omega
    have qc1 : (m : Int) ≤ (cv : Int) := by omega
    have cU := fun A c hA => unzigAllV mm (m - mm) v gv cv w.heap.size m A c w1 HNV.out (by rw [HVL.out]; omega) hA (by omega) HGV.out HBD.out
    have cA1 := fun A c wx hx hA => addUpV 1 (m - 1) (rowOf (uzF mm v) v.length) gv cv w.heap.size m A c wx hx (by rw [rowOf_length, HVL.out]; have := HM.out; omega) hA (by have := HM.out; omega) HGV.out (fun j hj => by
      rw [rowOf_length] at hj
      have h1 := HM.out
      have h2 := HVL.out
      rw [hmm]
      by_cases hj0 : j = 0
      · subst hj0
        rw [gaps_zero v (by omega)]
        have := HR.out.boundD 0
        omega
      · rw [gaps_made v (by omega) j hj (by omega)]
        have := gp_bound v HR.out.boundD j
        omega)
    have cA0 := fun c wx hx => addUpV 0 m (rowOf (auF 1 (rowOf (uzF mm v) v.length)) v.length) gv cv w.heap.size m (some ⟨gv, 0, none⟩) c wx hx (by rw [rowOf_length, HVL.out]; omega) (fun _ => rfl) (by have := HM.out; omega) HGV.out (fun j hj => by
      rw [rowOf_length] at hj
      have h1 := HM.out
      have h2 := HVL.out
      rw [hmm, times_made v (by omega) j hj]
      have := rt_bound v HR.out.boundD j (by omega)
      omega)
    have HMM : Hid (mm = min 2 v.length) := hmm
    have HCU : Hid (∀ A c, (0 < m - mm → A = some ⟨gv, mm, none⟩) → Calls Tryd.prog 96 #[.slice A (m - mm) c] w1 fun e w' => (∃ u, e = .returned u) ∧ Nums w' w.heap.size (.slice (some ⟨gv, 0, none⟩) m cv) (rowOf (uzF mm v) v.length) ∧ Below w.heap.size w1 w') := cU
    have cS := fun wx hx => implShowTimes (rowT v) (.slice (some ⟨gv, 0, none⟩) m cv) wx wx.heap.size hx (by rw [rowT_length, HVL.out]; have := HM.out; omega) (Nat.le_refl _)
    have HTL : Hid (∀ wx, Below w.heap.size w wx → Nums wx w.heap.size (.slice (some ⟨gv, 0, none⟩) m cv) (rowOf (auF 0 (rowOf (auF 1 (rowOf (uzF mm v) v.length)) v.length)) v.length) → Nums wx w.heap.size (.slice (some ⟨gv, 0, none⟩) m cv) (rowT v)) := fun wx _ hx => by
      rw [HMM.out, rowT_made v (by have := HVL.out; have := HM.out; omega)] at hx
      exact hx
    have HA1 : Hid (∀ A c wx, Nums wx w.heap.size (.slice (some ⟨gv, 0, none⟩) m cv) (rowOf (uzF mm v) v.length) → (0 < m - 1 → A = some ⟨gv, 1, none⟩) → Calls Tryd.prog 97 #[.slice A (m - 1) c] wx fun e w' => (∃ u, e = .returned u) ∧ Nums w' w.heap.size (.slice (some ⟨gv, 0, none⟩) m cv) (rowOf (auF 1 (rowOf (uzF mm v) v.length)) (rowOf (uzF mm v) v.length).length) ∧ Below w.heap.size wx w') := cA1
    have HA0 : Hid (∀ c wx, Nums wx w.heap.size (.slice (some ⟨gv, 0, none⟩) m cv) (rowOf (auF 1 (rowOf (uzF mm v) v.length)) v.length) → Calls Tryd.prog 97 #[.slice (some ⟨gv, 0, none⟩) m c] wx fun e w' => (∃ u, e = .returned u) ∧ Nums w' w.heap.size (.slice (some ⟨gv, 0, none⟩) m cv) (rowOf (auF 0 (rowOf (auF 1 (rowOf (uzF mm v) v.length)) v.length)) (rowOf (auF 1 (rowOf (uzF mm v) v.length)) v.length).length) ∧ Below w.heap.size wx w') := cA0
    clear cU hmm cA1 cA0
    by_cases heq : showT (rowT v) = s.extract 0 k
    · have HANS : Hid (RdAns showT rowT s (m : Int) (rowT v) k) := RdAns.yes HM.out.1 HM.out.2 HR.out heq
      have hq := bytes_eq heq
      clear heq
      generalize showT (rowT v) = sv at *
      go_wp2_with fail
      all_goals
        first | subst h | (have HX : Hid _ := h; clear h)
        refine (HCU.out _ _ (by intro hp; first | rfl | (exfalso; omega))).mono ?_
        rintro e w2 ⟨⟨u2, rfl⟩, hN2, hb2⟩
        have B2 : Hid (Below w.heap.size w w2) := B1.out.trans hb2
        have N2 : Hid (Nums w2 w.heap.size _ _) := hN2
        clear hb2 hN2
        go_wp2_with fail
      all_goals
        first | subst h | (have HY : Hid _ := h; clear h)
        refine (HA1.out _ _ w2 N2.out (by intro hp; first | rfl | (exfalso; omega))).mono ?_
        rintro e w3 ⟨⟨u3, rfl⟩, hN3, hb3⟩
        rw [rowOf_length] at hN3
        have B3 : Hid (Below w.heap.size w w3) := B2.out.trans hb3
        have N3 : Hid (Nums w3 w.heap.size _ _) := hN3
        clear hb3 hN3
        go_wp2_with fail
        refine (HA0.out _ w3 N3.out).mono ?_
        rintro e w4 ⟨⟨u4, rfl⟩, hN4, hb4⟩
        rw [rowOf_length] at hN4
        have B4 : Hid (Below w.heap.size w w4) := B3.out.trans hb4
        have N4 : Hid (Nums w4 w.heap.size _ (rowT v)) := HTL.out w4 B4.out hN4
        clear hb4 hN4 N2 N3 B2 B3 HA1 HA0 HCU HTL
        go_wp2_with fail
        go_region_held3 (fun _ => True) (exact True.intro) ((go_at_call 69; refine (cS w4.drew ((N4.out.heap rfl).lies)).mono ?_; rintro e w5 ⟨rfl, hb5⟩))
      all_goals
        have B5 : Hid (Below w.heap.size w w5) := B4.out.drew.trans (hb5.mono B4.out.size)
        have N5 : Hid (Nums w5 w.heap.size _ (rowT v)) := (N4.out.heap (w' := w4.drew) rfl).on hb5
        clear hb5
        go_wp2_with fail
        go_ret2
        exact ⟨⟨_, k, _, HANS.out, rfl, N5.out⟩, B5.out⟩
    · have HANS : Hid (RdAns showT rowT s (m : Int) [] 0) := RdAns.other HR.out heq
      have hq := bytes_ne heq
      clear heq
      generalize showT (rowT v) = sv at *
      go_wp2_with fail
      all_goals
        first | subst h | (have HX : Hid _ := h; clear h)
        refine (HCU.out _ _ (by intro hp; first | rfl | (exfalso; omega))).mono ?_
        rintro e w2 ⟨⟨u2, rfl⟩, hN2, hb2⟩
        have B2 : Hid (Below w.heap.size w w2) := B1.out.trans hb2
        have N2 : Hid (Nums w2 w.heap.size _ _) := hN2
        clear hb2 hN2
        go_wp2_with fail
      all_goals
        first | subst h | (have HY : Hid _ := h; clear h)
        refine (HA1.out _ _ w2 N2.out (by intro hp; first | rfl | (exfalso; omega))).mono ?_
        rintro e w3 ⟨⟨u3, rfl⟩, hN3, hb3⟩
        rw [rowOf_length] at hN3
        have B3 : Hid (Below w.heap.size w w3) := B2.out.trans hb3
        have N3 : Hid (Nums w3 w.heap.size _ _) := hN3
        clear hb3 hN3
        go_wp2_with fail
        refine (HA0.out _ w3 N3.out).mono ?_
        rintro e w4 ⟨⟨u4, rfl⟩, hN4, hb4⟩
        rw [rowOf_length] at hN4
        have B4 : Hid (Below w.heap.size w w4) := B3.out.trans hb4
        have N4 : Hid (Nums w4 w.heap.size _ (rowT v)) := HTL.out w4 B4.out hN4
        clear hb4 hN4 N2 N3 B2 B3 HA1 HA0 HCU HTL
        go_wp2_with fail
        go_region_held3 (fun _ => True) (exact True.intro) ((go_at_call 69; refine (cS w4.drew ((N4.out.heap rfl).lies)).mono ?_; rintro e w5 ⟨rfl, hb5⟩))
      all_goals
        have B5 : Hid (Below w.heap.size w w5) := B4.out.drew.trans (hb5.mono B4.out.size)
        clear hb5
        go_wp2_with fail
        go_ret2
        exact ⟨⟨[], 0, _, HANS.out, rfl, Nums.nil _ _⟩, B5.out⟩
  · have HANS : Hid (RdAns showT rowT s (m : Int) [] 0) := RdAns.few hno
    clear hno
    go_wp2_with fail
    go_ret2
    exact ⟨⟨[], 0, _, HANS.out, rfl, Nums.nil _ _⟩, B1.out⟩
end Go.Proofs.YthgiekeiljflaaaDoor
