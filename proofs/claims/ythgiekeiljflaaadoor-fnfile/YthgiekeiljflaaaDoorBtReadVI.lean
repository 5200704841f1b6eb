/-
  Contract of impl.ReadValues.
-/
import Derived.Test.YthgiekeiljflaaaDoorRows
import Derived.Test.YthgiekeiljflaaaDoorGB
import Derived.Test.YthgiekeiljflaaaDoorGD
namespace Go.Proofs.YthgiekeiljflaaaDoor
open Go.ChangeShapes Go.WideShapes Go.ChangeAt Go.RowKit Go.PlainAid
set_option linter.unusedVariables false

set_option maxHeartbeats 2000000 in
theorem implReadValues_no (s : ByteArray) (n : Int) (w : World) (h : n < 1 ∨ 60 < n) : Calls Tryd.prog 76 #[.string s, .int .i64 n] w fun e w' => (∃ l k u, RdAns showV rowV s n l k ∧ e = .returned (.tuple #[u, .int .i64 (k : Int)]) ∧ Nums w' w.heap.size u l) ∧ Below w.heap.size w w' := by
  have c := fun wx => implReadVars_no s n wx h
  have H : Hid (n < 1 ∨ 60 < n) := h
  clear h
  go_enter Tryd.func76, Tryd.ntmps76
  go_wp2_with fail
  refine (c _).mono ?_
  rintro e w1 ⟨rfl, rfl⟩
  go_wp2_with fail
  go_ret2
  exact ⟨⟨[], 0, _, RdAns.none H.out, rfl, Nums.nil _ _⟩, Below.refl _ _⟩

set_option maxHeartbeats 2000000 in
theorem implReadValues (s : ByteArray) (m : Nat) (w : World) (hs : s.size ≤ 1048576) (h1 : 1 ≤ m) (h2 : m ≤ 60) : Calls Tryd.prog 76 #[.string s, .int .i64 (m : Int)] w fun e w' => (∃ l k u, RdAns showV rowV s (m : Int) l k ∧ e = .returned (.tuple #[u, .int .i64 (k : Int)]) ∧ Nums w' w.heap.size u l) ∧ Below w.heap.size w w' := by
  have cR := fun wx => implReadVars s m wx hs h1 h2
  have q1 : (1 : Int) ≤ (m : Int) := by omega
  have q2 : (m : Int) ≤ 60 := by omega
  have q3 : (s.size : Int) ≤ 1048576 := by omega
  have HM : Hid (1 ≤ m ∧ m ≤ 60) := ⟨h1, h2⟩
  clear hs
  go_enter Tryd.func76, Tryd.ntmps76
  go_wp2_with fail
  refine (cR _).mono ?_
  rintro e w1 ⟨hR, hb1⟩
  have B1 : Hid (Below w.heap.size w w1) := hb1
  clear hb1 cR
  rcases hR with ⟨v, k, u, hR, rfl, hNv⟩ | ⟨hno, rfl⟩
  · have HR : Hid (Rd s m v k) := hR
    have hvl := hR.length
    obtain ⟨Av, cv, rfl, _, _⟩ := hNv.shape
    obtain ⟨gv, rfl, hgv, _⟩ := hNv.block (by omega)
    have HVL : Hid (v.length = m) := hvl
    rw [hvl] at hNv
    rw [hvl]
    have HNV : Hid (Nums w1 w.heap.size (.slice (some ⟨gv, 0, none⟩) m cv) v) := hNv
    have HGV : Hid (w.heap.size ≤ gv) := hgv
    have hkk := hR.le
    have q4 : (0 : Int) ≤ (k : Int) := by omega
    have q5 : (k : Int) ≤ (s.size : Int) := by omega
    have q6 : ¬ (k : Int) = 0 := by omega
    have q7 : ¬ k = 0 := by omega
    have HK : Hid (1 ≤ k ∧ k ≤ s.size) := ⟨by omega, by omega⟩
    have HBD : Hid (∀ j, -9223372036854775808 ≤ v.getD j 0 ∧ v.getD j 0 ≤ 9223372036854775807) := fun j => by have := hR.boundD j; omega
    clear hR hNv hvl hkk hgv
    go_wp2_with fail
    refine (unzigAllV 0 m v gv cv w.heap.size m (some ⟨gv, 0, none⟩) cv w1 HNV.out (by rw [HVL.out]; omega) (fun _ => rfl) (by have := HM.out; omega) HGV.out HBD.out).mono ?_
    rintro e w2 ⟨⟨u2, rfl⟩, hN2, hb2⟩
    have B2 : Hid (Below w.heap.size w w2) := B1.out.trans hb2
    have N2 : Hid (Nums w2 w.heap.size (.slice (some ⟨gv, 0, none⟩) m cv) (rowOf (uzF 0 v) v.length)) := hN2
    clear hb2 hN2
    go_wp2_with fail
    refine (addUpV 0 m (rowOf (uzF 0 v) v.length) gv cv w.heap.size m (some ⟨gv, 0, none⟩) cv w2 N2.out (by rw [rowOf_length, HVL.out]; omega) (fun _ => rfl) (by have := HM.out; omega) HGV.out ?_).mono ?_
    · intro j hj
      rw [rowOf_length] at hj
      have h : (rowOf (auF 0 (rowOf (uzF 0 v) v.length)) v.length).getD j 0 = (rowV v).getD j 0 := by rw [rowV_made]
      rw [rowOf_get _ _ _ hj, rowV, rowOf_get _ _ _ hj] at h
      rw [h]
      have := rv_bound v j
      have := HM.out
      have := HVL.out
      omega
    rintro e w3 ⟨⟨u3, rfl⟩, hN3, hb3⟩
    have B3 : Hid (Below w.heap.size w w3) := B2.out.trans hb3
    have N3 : Hid (Nums w3 w.heap.size (.slice (some ⟨gv, 0, none⟩) m cv) (rowV v)) := by
      rw [rowOf_length, rowV_made] at hN3
      exact hN3
    have cS := fun wx hx => implShowValues (rowV v) (.slice (some ⟨gv, 0, none⟩) m cv) wx wx.heap.size hx (by rw [rowV_length, HVL.out]; have := HM.out; omega) (Nat.le_refl _)
    clear hb3 hN3
    by_cases heq : showV (rowV v) = s.extract 0 k
    · have HANS : Hid (RdAns showV rowV s (m : Int) (rowV v) k) := RdAns.yes HM.out.1 HM.out.2 HR.out heq
      have hq := bytes_eq heq
      clear heq
      generalize showV (rowV v) = sv at *
      go_wp2_with fail
      go_region_held3 (fun _ => True) (exact True.intro) ((go_at_call 70; refine (cS w3.drew ((N3.out.heap rfl).lies)).mono ?_; rintro e w5 ⟨rfl, hb5⟩))
      all_goals
        have B5 : Hid (Below w.heap.size w w5) := B3.out.drew.trans (hb5.mono B3.out.size)
        have N5 : Hid (Nums w5 w.heap.size (.slice (some ⟨gv, 0, none⟩) m cv) (rowV v)) := (N3.out.heap (w' := w3.drew) rfl).on hb5
        clear hb5
        go_wp2_with fail
        go_ret2
        exact ⟨⟨_, k, _, HANS.out, rfl, N5.out⟩, B5.out⟩
    · have HANS : Hid (RdAns showV rowV s (m : Int) [] 0) := RdAns.other HR.out heq
      have hq := bytes_ne heq
      clear heq
      generalize showV (rowV v) = sv at *
      go_wp2_with fail
      go_region_held3 (fun _ => True) (exact True.intro) ((go_at_call 70; refine (cS w3.drew ((N3.out.heap rfl).lies)).mono ?_; rintro e w5 ⟨rfl, hb5⟩))
      all_goals
        have B5 : Hid (Below w.heap.size w w5) := B3.out.drew.trans (hb5.mono B3.out.size)
        clear hb5
        go_wp2_with fail
        go_ret2
        exact ⟨⟨[], 0, _, HANS.out, rfl, Nums.nil _ _⟩, B5.out⟩
  · have HANS : Hid (RdAns showV rowV s (m : Int) [] 0) := RdAns.few hno
    clear hno
    go_wp2_with fail
    go_ret2
    exact ⟨⟨[], 0, _, HANS.out, rfl, Nums.nil _ _⟩, B1.out⟩
end Go.Proofs.YthgiekeiljflaaaDoor
