/-
  Contract of spec.l13Vars: so many Vars from a place on.
-/
import Derived.Test.YtaaefceknjhloaaRows
import Derived.Test.YtaaefceknjhloaaCmMath
import Derived.Test.YtaaefceknjhloaaNmAid
import Derived.Test.YtaaefceknjhloaaNmLaw
namespace Go.Proofs.Ytaaefceknjhloaa
open Go.ChangeShapes Go.WideShapes Go.ChangeAt Go.RowKit Go.PlainAid
set_option linter.unusedVariables false

set_option maxHeartbeats 1000000 in
theorem specVars (s : ByteArray) (a k0 : Nat) (w : World) (hs : s.size ≤ 1048576) (ha : a ≤ 2097152) (h2 : k0 ≤ 60) :
    Calls Try.prog 16 #[.string s, .int .i64 (a : Int), .int .i64 (k0 : Int)] w fun e w' => ((∃ l n u, RdF s a k0 l n ∧ e = .returned (.tuple #[u, .int .i64 (n : Int)]) ∧ Nums w' w.heap.size u l) ∨ ((∀ l n, ¬ RdF s a k0 l n) ∧ ∃ u, e = .returned (.tuple #[u, .int .i64 (-1)]))) ∧ Below w.heap.size w w' := by
  have q2 : (k0 : Int) ≤ 60 := by omega
  have HS : Hid (s.size ≤ 1048576) := hs
  have HA : Hid (a ≤ 2097152) := ha
  have q3 : (s.size : Int) ≤ 1048576 := by omega
  clear hs ha
  go_enter Try.func16, Try.ntmps16
  go_wp2_with fail
  go_loopw [1, 8, 9] (fun v1 v8 v9 wr => ∃ (k n : Nat) (l : List Int), k ≤ k0 ∧ v9 = .int .i64 (k : Int) ∧ v1 = .int .i64 (n : Int) ∧ Hid (RdF s a k l n) ∧ Nums wr w.heap.size v8 l ∧ Below w.heap.size w wr) (fun _ _ i _ => k0 - (intOf i).toNat)
  case atStart => exact ⟨0, a, [], by omega, rfl, rfl, ⟨rfl, rfl⟩, Nums.empty _ _ (Nat.le_refl _), (Below.refl _ _).alloc (Nat.le_refl _) _⟩
  case round =>
    obtain ⟨k, n, l, hk, rfl, rfl, HR, hN, hb⟩ := hrel
    have HN : Hid (Nums wr w.heap.size _ l) := hN
    obtain ⟨A, c, rfl, _, _⟩ := hN.shape
    have HB : Hid (Below w.heap.size w wr) := hb
    have hln := HR.out.length
    have HLN : Hid (l.length ≤ 2097152) := by unfold Hid; omega
    clear hN hb
    by_cases hlt : k < k0
    · have q4 : (k : Int) < (k0 : Int) := by omega
      have hnb : (n : Int) ≤ 4194304 := by have := HR.out.le; have := HA.out; omega
      by_cases hns : n ≤ s.size
      · have q5 : (n : Int) ≤ (s.size : Int) := by omega
        have q5' : decide ((s.size : Int) < (n : Int)) = false := decide_eq_false (by omega)
        have hsx : (lf s n).size ≤ 1048576 := by rw [lf_size]; have := HS.out; omega
        have c := fun wx => spec_readVar (lf s n) wx hsx
        have HX : Hid (∀ m, FindV (lf s n) m → m ≤ s.size - n) := fun m hm => by have := hm.2.2.1; rw [lf_size] at this; omega
        have HSX0 : Hid (s.extract n s.size = lf s n) := rfl
        unfold lf at c
        clear hsx hln
        go_wp2_with fail
        refine (c _).mono ?_
        rw [HSX0.out]
        clear c HSX0
        generalize hsx' : lf s n = sx at *
        have HSX : Hid (lf s n = sx) := hsx'
        clear hsx'
        rintro e w1 ⟨hR, hb1⟩
        have HB1 : Hid (Below w.heap.size w w1) := HB.out.trans (hb1.mono HB.out.size)
        have HN1 : Hid (Nums w1 w.heap.size (.slice A l.length _) l) := HN.out.on hb1
        clear hb1
        rcases hR with ⟨m, hm, rfl⟩ | ⟨hno, rfl⟩
        · have hmx := HX.out m hm
          have hm1 := hm.1
          have hm7 := hm.2.1
          have q6 : (m : Int) ≤ 7 := by omega
          have q7 : (1 : Int) ≤ (m : Int) := by omega
          have q8 : ¬ (m : Int) = 0 := by omega
          have q9 : ¬ m = 0 := by omega
          have HM : Hid (FindV sx m) := hm
          have HZ : Hid (w.heap.size ≤ w1.heap.size) := HB1.out.size
          generalize hz : (vvS sx 0 m : Int) = z at *
          have HR2 : Hid (RdF s a (k + 1) (l ++ [z]) (n + m)) := by
            refine ⟨l, n, m, HR.out, ?_, ?_, rfl⟩
            · rw [HSX.out]; exact HM.out
            · rw [HSX.out, hz]
          clear hz hm
          go_wp2_with (at_builtin; refine wpList_append_num rfl (.tmp 33) (.tmp 35) 35 rfl Try.underlying35 Try.infoInt w.heap.size _ l rfl HN1.out z rfl HLN.out HZ.out ?_; intro v' w2 hN2 hb2 hk2)
          go_roundw
          case rel => exact ⟨k + 1, n + m, l ++ [z], by omega, by go_num, by go_num, HR2, hN2, HB1.out.trans hb2⟩
          case measure => simp [intOf]; omega
        · have HNO : Hid (∀ l n, ¬ RdF s a k0 l n) := HR.out.no hlt (by rw [HSX.out]; exact hno)
          clear hno
          go_wp2_with fail
          go_ret2
          exact ⟨.inr ⟨HNO.out, _, rfl⟩, HB1.out⟩
      · have q5 : decide ((s.size : Int) < (n : Int)) = true := decide_eq_true (by omega)
        have HNO : Hid (∀ l n, ¬ RdF s a k0 l n) := HR.out.no hlt (fun m hm => by have h3 := hm.2.2.1; have h1 := hm.1; rw [lf_size] at h3; omega)
        clear hln
        go_wp2_with fail
        go_ret2
        exact ⟨.inr ⟨HNO.out, _, rfl⟩, HB.out⟩
    · obtain rfl : k = k0 := by omega
      go_wp2_with fail
      go_ret2
      exact ⟨.inl ⟨l, n, _, HR.out, rfl, HN.out⟩, HB.out⟩
end Go.Proofs.Ytaaefceknjhloaa
