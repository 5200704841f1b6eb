/-
  Contracts of the three methods fits.
-/
import Derived.Test.YtcghclaobodgjaaDoorRows
import Derived.Test.YtcghclaobodgjaaDoorStFits
import Derived.Handy
import Derived.Deep.RegionHeld3
namespace Go.Proofs.YtcghclaobodgjaaDoor
open Go.ChangeShapes Go.WideShapes Go.ChangeAt Go.RowKit Go.PlainAid
set_option linter.unusedVariables false

set_option maxHeartbeats 2000000 in
theorem hardFits (t i v : Int) (d : ByteArray) (x : Wl) (wv : Value) (w : World) (B : Nat) (hv : WalV w B wv x) (hn : x.ents.length ≤ 60) (hb1 : 0 ≤ x.base) (hb2 : x.base ≤ 100000) (hB : B ≤ w.heap.size) : Calls Tryd.prog 36 #[.agg #[.int .i64 t, .int .i64 v], wv] w fun e w' => e = .returned (.bool (recFits x ⟨1, t, i, v, d⟩)) ∧ Below w.heap.size w w' := by
  obtain ⟨u, rfl, hl⟩ := hv
  obtain ⟨A, cap, rfl, hlk⟩ := ent_look hl
  obtain ⟨xt, xv, xb, xbt, es⟩ := x
  simp only at hn hb1 hb2 hlk ⊢
  clear hl
  have HL : Hid (∀ j, j < es.length → ∃ g off, A = some ⟨g, off, none⟩ ∧ g < B ∧ _) := hlk
  have HBW : Hid (B ≤ w.heap.size) := hB
  clear hlk hB
  generalize hN : es.length = n at *
  have q1 : (n : Int) ≤ 60 := by omega
  have hw1 : IntKind.i64.wrap (xb + (n : Int)) = xb + (n : Int) := by rw [IntKind.wrap_i64]; omega
  have hw2 : IntKind.i64.wrap (xb + (n : Int) + 1) = xb + (n : Int) + 1 := by rw [IntKind.wrap_i64]; omega
  have HB : Hid (Below w.heap.size w ((w.alloc (.cells #[.int .i64 t, .int .i64 v] 73)).alloc (.cells #[.int .i64 xt, .int .i64 xv, .int .i64 xb, .int .i64 xbt, .slice A n cap] 30))) := below_alloc2 w _ _
  by_cases a : xt < t
  · have HE : Hid (recFits ⟨xt, xv, xb, xbt, es⟩ ⟨1, t, i, v, d⟩ = true) := by unfold Hid recFits; simp [a]
    go_enter Tryd.func36, Tryd.ntmps36
    go_wp2_with fail
    go_ret
    exact ⟨by rw [HE.out]; rfl, HB.out⟩
  · have a' : t ≤ xt := by omega
    by_cases b : t = xt
    rotate_left
    · have HE : Hid (recFits ⟨xt, xv, xb, xbt, es⟩ ⟨1, t, i, v, d⟩ = false) := by unfold Hid recFits; simp [a, b]
      have zb : (t == xt) = false := by simpa using b
      go_enter Tryd.func36, Tryd.ntmps36
      go_wp2_with fail
      go_ret
      exact ⟨by rw [HE.out]; rfl, HB.out⟩
    · have zb : (t == xt) = true := by simpa using b
      by_cases c : xv = -1
      · have zc : (xv == -1) = true := by simpa using c
        have HE : Hid (recFits ⟨xt, xv, xb, xbt, es⟩ ⟨1, t, i, v, d⟩ = true) := by unfold Hid recFits; simp [b, c]
        clear b c
        go_enter Tryd.func36, Tryd.ntmps36
        go_wp2_with fail
        go_ret
        exact ⟨by rw [HE.out]; rfl, HB.out⟩
      · have zc : (xv == -1) = false := by simpa using c
        by_cases e : v = xv
        · have ze : (v == xv) = true := by simpa using e
          have HE : Hid (recFits ⟨xt, xv, xb, xbt, es⟩ ⟨1, t, i, v, d⟩ = true) := by unfold Hid recFits; simp [b, e]
          clear b c e
          go_enter Tryd.func36, Tryd.ntmps36
          go_wp2_with fail
          go_ret
          exact ⟨by rw [HE.out]; rfl, HB.out⟩
        · have ze : (v == xv) = false := by simpa using e
          have HE : Hid (recFits ⟨xt, xv, xb, xbt, es⟩ ⟨1, t, i, v, d⟩ = false) := by unfold Hid recFits; simp [b, c, e]
          clear b c e
          go_enter Tryd.func36, Tryd.ntmps36
          go_wp2_with fail
          go_ret
          exact ⟨by rw [HE.out]; rfl, HB.out⟩

end Go.Proofs.YtcghclaobodgjaaDoor
