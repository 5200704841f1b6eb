/-
  Contracts of the laws' own helpers over slices of texts: eqStringS where both hold the same, markStringS, heldStringS where the marks are held (no condition but that the slices are the call's own, and short).
-/
import Derived.Test.YtljpakpokjpemaaStrLaw
namespace Go.Proofs.Ytljpakpokjpemaa
open Go.ChangeShapes Go.WideShapes Go.ChangeAt Go.RowKit Go.PlainAid
set_option linter.unusedVariables false

theorem cell?_heap {w w' : World} (h : w'.heap = w.heap) (a : Addr) : w'.cell? a = w.cell? a := by
  unfold World.cell?
  rw [h]
theorem Strs.heap {w w' : World} {base : Nat} {v : Value} {l : List ByteArray} (h : Strs w base v l) (hh : w'.heap = w.heap) : Strs w' base v l := h.kept fun g _ _ => by rw [hh]
theorem below_heap {w w' : World} (h1 : w'.heap = w.heap) (h2 : w'.os = w.os) (h3 : w'.tape = w.tape) (h4 : w'.output = w.output) : Below w.heap.size w w' := ⟨h2, h3, h4, by rw [h1]; exact Nat.le_refl _, fun k _ => by rw [h1]⟩
/-- As w, but for the count of draws. -/
def Like (w w' : World) : Prop := w'.heap = w.heap ∧ w'.os = w.os ∧ w'.tape = w.tape ∧ w'.output = w.output
theorem Like.refl (w : World) : Like w w := ⟨rfl, rfl, rfl, rfl⟩
theorem Like.drewN {w w' : World} (h : Like w w') (n : Nat) : Like w (w'.drewN n) := h
theorem Like.below {w w' : World} (h : Like w w') : Below w.heap.size w w' := below_heap h.1 h.2.1 h.2.2.1 h.2.2.2

set_option maxHeartbeats 1000000 in
theorem eq_same (a b : Nat) (va vb : Value) (l : List ByteArray) (w : World) (ha : Strs w a va l) (hb : Strs w b vb l) (hl : l.length ≤ 2097152) :
    Calls Try.prog 18 #[va, vb] w fun e w' => e = .returned (.bool true) ∧ Like w w' := by
  by_cases h0 : l.length = 0
  · obtain ⟨A, ca, rfl⟩ : ∃ A ca, va = .slice A 0 ca := by
      rcases ha.form with ⟨rfl, _⟩ | ⟨g, c, rfl, _⟩
      · exact ⟨_, _, rfl⟩
      · rw [h0]; exact ⟨_, _, rfl⟩
    obtain ⟨B, cb, rfl⟩ : ∃ B cb, vb = .slice B 0 cb := by
      rcases hb.form with ⟨rfl, _⟩ | ⟨g, c, rfl, _⟩
      · exact ⟨_, _, rfl⟩
      · rw [h0]; exact ⟨_, _, rfl⟩
    clear ha hb h0 hl
    go_enter Try.func18, Try.ntmps18
    go_wp2
    go_loop [5] (fun v5 => v5 = .int .i64 0) (fun _ => 0)
    case atStart => rfl
    case round =>
      subst hrel
      go_wp2
      go_ret
      exact ⟨rfl, Like.refl _⟩
  · obtain ⟨g, ca, rfl, _, _⟩ : ∃ g cap, va = .slice (some ⟨g, 0, none⟩) l.length cap ∧ a ≤ g ∧ g < w.heap.size := by
      rcases ha.form with ⟨rfl, rfl⟩ | h
      · exact absurd rfl h0
      · exact h
    obtain ⟨g', cb, rfl, _, _⟩ : ∃ g cap, vb = .slice (some ⟨g, 0, none⟩) l.length cap ∧ b ≤ g ∧ g < w.heap.size := by
      rcases hb.form with ⟨rfl, rfl⟩ | h
      · exact absurd rfl h0
      · exact h
    have HA : Hid (Strs w a (.slice (some ⟨g, 0, none⟩) l.length ca) l) := ha
    have HB : Hid (Strs w b (.slice (some ⟨g', 0, none⟩) l.length cb) l) := hb
    have q1 : (l.length : Int) ≤ 2097152 := by omega
    clear ha hb hl
    generalize hn : l.length = n at *
    have HN : Hid (l.length = n) := hn
    clear hn
    go_enter Try.func18, Try.ntmps18
    go_wp2
    go_loopw [5] (fun v5 wr => ∃ k : Nat, k ≤ n ∧ v5 = .int .i64 k ∧ Like w wr) (fun i _ => n - (intOf i).toNat)
    case atStart => exact ⟨0, by omega, rfl, Like.refl _⟩
    case round =>
      obtain ⟨k, hk, rfl, hL⟩ := hrel
      by_cases hlt : k < n
      · have q2 : (k : Int) < (n : Int) := by omega
        have hkl : k < l.length := by rw [HN.out]; exact hlt
        have c1 := HA.out
        have c2 := HB.out
        rw [← HN.out] at c1 c2
        have e1 := c1.cell k hkl
        have e2 := c2.cell k hkl
        rw [← cell?_heap hL.1] at e1 e2
        generalize l[k] = x at *
        clear c1 c2 hkl
        go_wp2
        go_quiet (fail)
        go_wp2
        go_roundw
        case rel => exact ⟨k + 1, by omega, by go_num, hL.drewN _⟩
        case measure => simp [intOf]; omega
      · have hkk : k = n := by omega
        subst hkk
        go_wp2
        go_ret
        exact ⟨rfl, hL⟩

set_option maxHeartbeats 1000000 in
theorem mark_all (k base : Nat) (v : Value) (l : List ByteArray) (w : World) (hv : Strs w base v l) (hl : l.length ≤ 2097152) (h1 : 1 ≤ k) (h2 : k ≤ 100000000) (hbase : base ≤ w.heap.size) :
    Calls Try.prog 19 #[v, .int .i64 (k : Int)] w fun e w' => e = .returned (.int .i64 ((k + l.length : Nat) : Int)) ∧ Strs w' base v (marks k l.length) ∧ Below base w w' := by
  by_cases h0 : l.length = 0
  · obtain ⟨A, ca, rfl⟩ : ∃ A ca, v = .slice A 0 ca := by
      rcases hv.form with ⟨rfl, _⟩ | ⟨g, c, rfl, _⟩
      · exact ⟨_, _, rfl⟩
      · rw [h0]; exact ⟨_, _, rfl⟩
    have HV : Hid (Strs w base (.slice A 0 ca) l) := hv
    have HZ : Hid (l.length = 0) := h0
    clear hv h0 hl
    go_enter Try.func19, Try.ntmps19
    go_wp2
    go_loop [1, 5] (fun v1 v5 => v1 = .int .i64 (k : Int) ∧ v5 = .int .i64 0) (fun _ _ => 0)
    case atStart => exact ⟨rfl, rfl⟩
    case round =>
      obtain ⟨rfl, rfl⟩ := hrel
      go_wp2
      go_ret
      have e := List.eq_nil_of_length_eq_zero HZ.out
      have hv := HV.out
      subst e
      exact ⟨rfl, hv, Below.refl _ _⟩
  · obtain ⟨g, ca, rfl, hg, _⟩ : ∃ g cap, v = .slice (some ⟨g, 0, none⟩) l.length cap ∧ base ≤ g ∧ g < w.heap.size := by
      rcases hv.form with ⟨rfl, rfl⟩ | h
      · exact absurd rfl h0
      · exact h
    have HV : Hid (Strs w base (.slice (some ⟨g, 0, none⟩) l.length ca) l) := hv
    have q1 : (l.length : Int) ≤ 2097152 := by omega
    have q3 : (k : Int) ≤ 100000000 := by omega
    clear hv hl
    generalize hn : l.length = n at *
    have HN : Hid (l.length = n) := hn
    have HG : Hid (base ≤ g) := hg
    clear hn hg
    go_enter Try.func19, Try.ntmps19
    go_wp2
    go_loopw [1, 5] (fun v1 v5 wr => ∃ j : Nat, j ≤ n ∧ v5 = .int .i64 j ∧ v1 = .int .i64 ((k + j : Nat) : Int) ∧ Strs wr base (.slice (some ⟨g, 0, none⟩) n ca) (marked k l j) ∧ Below base w wr) (fun _ i _ => n - (intOf i).toNat)
    case atStart => exact ⟨0, by omega, rfl, rfl, by rw [marked_zero]; exact HV.out, Below.refl _ _⟩
    case round =>
      obtain ⟨j, hj, rfl, rfl, hS, hB⟩ := hrel
      have HS : Hid (Strs wr base (.slice (some ⟨g, 0, none⟩) n ca) (marked k l j)) := hS
      have HB : Hid (Below base w wr) := hB
      clear hS hB
      by_cases hlt : j < n
      · have q2 : (j : Int) < (n : Int) := by omega
        have hml : (marked k l j).length = n := by rw [marked_length _ _ _ (by rw [HN.out]; exact hj), HN.out]
        have c1 := markText (k + j) wr (by omega) (by omega)
        go_wp2_with fail
        refine c1.mono ?_
        rintro e w1 ⟨rfl, hb1⟩
        have hS1 := HS.out.on hb1
        rw [← hml] at hS1
        have e1 := hS1.cell j (by rw [hml]; exact hlt)
        have e2 := hS1.frozen j
        have hS2 := hS1.stored j (mark (k + j))
        rw [hml, marked_set _ _ _ (by rw [HN.out]; exact hlt)] at hS2
        have HS2 : Hid (Strs (w1.setCell ⟨g, j, none⟩ (.string (mark (k + j)))) base (.slice (some ⟨g, 0, none⟩) n ca) (marked k l (j + 1))) := hS2
        have hsz := HB.out.size
        have HB1 : Hid (Below base w w1) := HB.out.trans (hb1.mono (by omega))
        generalize (marked k l j)[j] = x at *
        clear hS1 hS2 hml
        go_wp2_with fail
        go_roundw
        case rel => exact ⟨j + 1, by omega, by go_num, by go_num, HS2.out, HB1.out.setCell HG.out _⟩
        case measure => simp [intOf]; omega
      · have hkk : j = n := by omega
        subst hkk
        go_wp2
        go_ret
        refine ⟨rfl, ?_, HB.out⟩
        have := HS.out
        rw [← HN.out, marked_all] at this
        rw [HN.out] at this
        exact this

set_option maxHeartbeats 1000000 in
theorem held_all (k base n : Nat) (v : Value) (w : World) (hv : Strs w base v (marks k n)) (hl : n ≤ 2097152) (h1 : 1 ≤ k) (h2 : k ≤ 100000000) :
    Calls Try.prog 20 #[v, .int .i64 (k : Int)] w fun e w' => e = .returned (.int .i64 ((k + n : Nat) : Int)) ∧ Below w.heap.size w w' := by
  have hml := marks_length k n
  by_cases h0 : n = 0
  · subst h0
    obtain ⟨A, ca, rfl⟩ : ∃ A ca, v = .slice A 0 ca := by
      rcases hv.form with ⟨rfl, _⟩ | ⟨g, c, rfl, _⟩
      · exact ⟨_, _, rfl⟩
      · exact ⟨_, _, rfl⟩
    clear hv hl hml
    go_enter Try.func20, Try.ntmps20
    go_wp2
    go_loop [1, 5] (fun v1 v5 => v1 = .int .i64 (k : Int) ∧ v5 = .int .i64 0) (fun _ _ => 0)
    case atStart => exact ⟨rfl, rfl⟩
    case round =>
      obtain ⟨rfl, rfl⟩ := hrel
      go_wp2
      go_ret
      exact ⟨rfl, Below.refl _ _⟩
  · obtain ⟨g, ca, rfl, hg, _⟩ : ∃ g cap, v = .slice (some ⟨g, 0, none⟩) (marks k n).length cap ∧ base ≤ g ∧ g < w.heap.size := by
      rcases hv.form with ⟨rfl, e⟩ | h
      · rw [e] at hml
        exact absurd hml.symm h0
      · exact h
    have HV : Hid (Strs w base (.slice (some ⟨g, 0, none⟩) (marks k n).length ca) (marks k n)) := hv
    have q1 : (n : Int) ≤ 2097152 := by omega
    have q3 : (k : Int) ≤ 100000000 := by omega
    clear hv hl hg
    rw [hml]
    go_enter Try.func20, Try.ntmps20
    go_wp2
    go_loopw [1, 5] (fun v1 v5 wr => ∃ j : Nat, j ≤ n ∧ v5 = .int .i64 j ∧ v1 = .int .i64 ((k + j : Nat) : Int) ∧ Below w.heap.size w wr) (fun _ i _ => n - (intOf i).toNat)
    case atStart => exact ⟨0, by omega, rfl, rfl, Below.refl _ _⟩
    case round =>
      obtain ⟨j, hj, rfl, rfl, hB⟩ := hrel
      have HB : Hid (Below w.heap.size w wr) := hB
      clear hB
      by_cases hlt : j < n
      · have q2 : (j : Int) < (n : Int) := by omega
        have hS := HV.out.on HB.out
        have e1 := hS.cell j (by rw [hml]; exact hlt)
        rw [marks_get] at e1
        have c1 := fun wx => markText (k + j) wx (by omega) (by omega)
        have hsz := HB.out.size
        have hgl : Hid (g < wr.heap.size) := World.block_lt_of_cell? _ _ e1
        clear hS
        go_wp2_with fail
        go_region_with (go_at_call 48; refine (c1 _).mono ?_; rintro e w1 ⟨rfl, hb1⟩; have e3 := (hb1.cell (p := ⟨g, j, none⟩) hgl.out).trans e1)
        all_goals go_wp2_with fail
        all_goals exact ⟨⟨j + 1, by omega, by go_num, by go_num, HB.out.trans (((Below.refl _ wr).drew.trans hb1).mono hsz)⟩, by simp [intOf]; omega⟩
      · have hkk : j = n := by omega
        subst hkk
        go_wp2
        go_ret
        exact ⟨rfl, HB.out⟩
end Go.Proofs.Ytljpakpokjpemaa
