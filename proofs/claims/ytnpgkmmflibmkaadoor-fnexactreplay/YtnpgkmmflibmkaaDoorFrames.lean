/-
  Contracts of impl.Frames and spec.Frames: all bodies with which a text begins, and how many bytes their frames have, at every text of at most 1048576 bytes, where the table of sixteen sums and the three sentinels hold what their texts lay.
-/
import Derived.Test.YtnpgkmmflibmkaaDoorUnframe
import Derived.Test.YtnpgkmmflibmkaaDoorStrEq
namespace Go.Proofs.YtnpgkmmflibmkaaDoor
open Go.ChangeShapes Go.WideShapes Go.ChangeAt Go.RowKit Go.PlainAid
set_option linter.unusedVariables false

theorem Tryd.info9 : (Tryd.prog.info? 9).map (fun i => (i.zero, i.size, i.bytes)) = some (some (.string ⟨#[]⟩), 1, 16) := by kernel_rfl

set_option maxHeartbeats 1000000 in
theorem impl_frames (s : ByteArray) (w : World) (hs : s.size ≤ 1048576) (ht : SumTab w) (a0 a1 a2 : Addr) (he : Errs w a0 a1 a2) :
    Calls Tryd.prog 12 #[.string s] w fun e w' => ∃ K v, Ends s K ∧ e = .returned (.tuple #[v, .int .i64 (pos s K : Int)]) ∧ Strs w' w.heap.size v (bods s K) ∧ Below w.heap.size w w' := by
  have HT : Hid (SumTab w) := ht
  have HE : Hid (Errs w a0 a1 a2) := he
  have HS : Hid (s.size ≤ 1048576) := hs
  clear ht he hs
  go_enter Tryd.func12, Tryd.ntmps12
  go_wp2_with fail
  go_loopw [4, 5] (fun v4 v5 wr => ∃ k : Nat, Runs s k ∧ v5 = .int .i64 (pos s k : Int) ∧ Strs wr w.heap.size v4 (bods s k) ∧ Below w.heap.size w wr) (fun _ i _ => s.size - (intOf i).toNat)
  case atStart => exact ⟨0, Runs.zero s, rfl, Strs.nil _ _, Below.refl _ _⟩
  case round =>
    obtain ⟨k, hk, rfl, hS, hB⟩ := hrel
    have hp := hk.pos_le
    have HK : Hid (Runs s k) := hk
    have HV : Hid (Strs wr w.heap.size u4 (bods s k)) := hS
    have HB : Hid (Below w.heap.size w wr) := hB
    have HP : Hid (k * 9 ≤ pos s k ∧ pos s k ≤ s.size) := hp
    have HL : Hid ((bods s k).length = k) := bods_length s k
    by_cases hc : code (rest s (pos s k)) = 0
    · have c1 := body_ok s (pos s k) wr hp.2 HS.out (HT.out.on hB) hc
      obtain ⟨h4, h1, h2, h8, hsum⟩ := (code_zero _).1 hc
      have hz := bodyOf_size _ h8
      have HR : Hid (Runs s (k + 1)) := hk.succ hc
      have hp1 := HR.out.pos_le
      have EP := pos_succ s k
      have EB : Hid (bods s (k + 1) = bods s k ++ [bodyOf (rest s (pos s k))]) := bods_succ s k
      have q1 : ((bodyOf (rest s (pos s k))).size : Int) = (rdv (rest s (pos s k)) 4 : Int) := by rw [hz]
      have q2 : (rdv (rest s (pos s k)) 4 : Int) ≤ 2000 := by omega
      have q3 : (pos s k : Int) ≤ 1048576 := by have := HS.out; omega
      have EQ : Hid ((pos s (k + 1) : Int) = (pos s k : Int) + (8 + (rdv (rest s (pos s k)) 4 : Int))) := by unfold Hid; rw [EP]; omega
      have HM : Hid (pos s k < pos s (k + 1) ∧ pos s (k + 1) ≤ s.size) := by unfold Hid; omega
      clear hS hB hp hk hc h4 h1 h2 h8 hsum hz hp1 EP
      generalize rdv (rest s (pos s k)) 4 = n at *
      generalize bodyOf (rest s (pos s k)) = b at *
      generalize hx : pos s k = p at *
      go_wp2_with fail
      refine c1.mono ?_
      rintro e w1 ⟨rfl, hb1⟩
      have hV1 := HV.out.on hb1
      have hsz : w.heap.size ≤ w1.heap.size := Nat.le_trans HB.out.size hb1.size
      have hB1 : Below w.heap.size w w1 := HB.out.trans (hb1.mono HB.out.size)
      go_wp2_with (at_builtin; refine wpList_append_str rfl (.tmp 18) (.tmp 20) 30 rfl Tryd.underlying30 Tryd.info9 w.heap.size _ (bods s k) rfl hV1 b rfl (by rw [HL.out]; have := HP.out; have := HS.out; omega) hsz ?_; intro v' w2 hV2 hb2)
      go_roundw
      case rel => exact ⟨k + 1, HR.out, by rw [EQ.out], by rw [EB.out]; exact hV2, hB1.trans hb2⟩
      case measure => have := HM.out; have := EQ.out; simp [intOf]; omega
    · have c1 := body_bad s (pos s k) wr hp.2 HS.out (HT.out.on hB) a0 a1 a2 (HE.out.on hB) hc
      have HC : Hid (code (rest s (pos s k)) ≠ 0) := hc
      simp only [badBody, wrapped] at c1
      clear hS hB hp hk hc
      generalize hx : pos s k = p at *
      go_wp2_with fail
      refine c1.mono ?_
      rintro e w1 ⟨⟨q, a, rfl, _⟩, hb1⟩
      have hV1 : Hid (Strs w1 w.heap.size u4 (bods s k)) := HV.out.on hb1
      have hB1 : Hid (Below w.heap.size w w1) := HB.out.trans (hb1.mono HB.out.size)
      go_wp2_with fail
      go_ret2
      exact ⟨k, u4, ⟨HK.out, by rw [hx]; exact HC.out⟩, by rw [hx]; rfl, hV1.out, hB1.out⟩

set_option maxHeartbeats 1000000 in
theorem spec_frames (s : ByteArray) (w : World) (hs : s.size ≤ 1048576) :
    Calls Tryd.prog 9 #[.string s] w fun e w' => ∃ K v, Ends s K ∧ e = .returned (.tuple #[v, .int .i64 (pos s K : Int)]) ∧ Strs w' w.heap.size v (bods s K) ∧ Below w.heap.size w w' := by
  have HS : Hid (s.size ≤ 1048576) := hs
  have q0 : (s.size : Int) ≤ 1048576 := by omega
  clear hs
  go_enter Tryd.func9, Tryd.ntmps9
  go_wp2_with fail
  go_loopw [4, 5] (fun v4 v5 wr => ∃ k : Nat, Runs s k ∧ v5 = .int .i64 (pos s k : Int) ∧ Strs wr w.heap.size v4 (bods s k) ∧ Below w.heap.size w wr) (fun _ i _ => s.size - (intOf i).toNat)
  case atStart => exact ⟨0, Runs.zero s, rfl, Strs.empty w _ (Nat.le_refl _), (Below.refl _ _).alloc (Nat.le_refl _) _⟩
  case round =>
    obtain ⟨k, hk, rfl, hS, hB⟩ := hrel
    have hp := hk.pos_le
    have HK : Hid (Runs s k) := hk
    have HV : Hid (Strs wr w.heap.size u4 (bods s k)) := hS
    have HB : Hid (Below w.heap.size w wr) := hB
    have HP : Hid (k * 9 ≤ pos s k ∧ pos s k ≤ s.size) := hp
    have HL : Hid ((bods s k).length = k) := bods_length s k
    have hr : s.extract (pos s k) s.size = rest s (pos s k) := rfl
    by_cases hlt : pos s k < s.size
    · have q4 : (pos s k : Int) < (s.size : Int) := by omega
      have q5 : (pos s k : Int) ≤ (s.size : Int) := by omega
      have c1 := spec_unframe (rest s (pos s k)) wr (by rw [rest_size]; have := HS.out; omega)
      by_cases hc : code (rest s (pos s k)) = 0
      · rw [unf, if_pos hc] at c1
        obtain ⟨h4, h1, h2, h8, hsum⟩ := (code_zero _).1 hc
        have HR : Hid (Runs s (k + 1)) := hk.succ hc
        have hp1 := HR.out.pos_le
        have EP := pos_succ s k
        have EB : Hid (bods s (k + 1) = bods s k ++ [bodyOf (rest s (pos s k))]) := bods_succ s k
        have EQ : Hid ((pos s (k + 1) : Int) = (pos s k : Int) + ((8 + rdv (rest s (pos s k)) 4 : Nat) : Int)) := by unfold Hid; rw [EP]; omega
        have HM : Hid (pos s k < pos s (k + 1) ∧ pos s (k + 1) ≤ s.size) := by unfold Hid; omega
        have q2 : ((8 + rdv (rest s (pos s k)) 4 : Nat) : Int) ≤ 2008 := by omega
        clear hS hB hp hk hc h4 h1 h2 h8 hsum hp1 EP hlt
        generalize 8 + rdv (rest s (pos s k)) 4 = n at *
        generalize bodyOf (rest s (pos s k)) = b at *
        generalize rest s (pos s k) = r at *
        generalize hx : pos s k = p at *
        go_wp2_with fail
        refine c1.mono ?_
        rintro e w1 ⟨rfl, hb1⟩
        have hV1 := HV.out.on hb1
        have hsz : w.heap.size ≤ w1.heap.size := Nat.le_trans HB.out.size hb1.size
        have hB1 : Below w.heap.size w w1 := HB.out.trans (hb1.mono HB.out.size)
        go_wp2_with (at_builtin; refine wpList_append_str rfl (.tmp 26) (.tmp 28) 30 rfl Tryd.underlying30 Tryd.info9 w.heap.size _ (bods s k) rfl hV1 b rfl (by rw [HL.out]; have := HP.out; have := HS.out; omega) hsz ?_; intro v' w2 hV2 hb2)
        go_roundw
        case rel => exact ⟨k + 1, HR.out, by rw [EQ.out], by rw [EB.out]; exact hV2, hB1.trans hb2⟩
        case measure => have := HM.out; have := EQ.out; simp [intOf]; omega
      · rw [unf, if_neg hc] at c1
        have HN : Hid (Ends s k) := ⟨hk, hc⟩
        have q6 : ((code (rest s (pos s k)) : Int) != 0) = true := by simp only [bne_iff_ne, ne_eq]; omega
        have q7 : ¬ (code (rest s (pos s k)) : Int) = 0 := by omega
        clear hS hB hp hk hc hlt
        generalize code (rest s (pos s k)) = c at *
        generalize rest s (pos s k) = r at *
        generalize hx : pos s k = p at *
        go_wp2_with fail
        refine c1.mono ?_
        rintro e w1 ⟨rfl, hb1⟩
        have hV1 : Hid (Strs w1 w.heap.size u4 (bods s k)) := HV.out.on hb1
        have hB1 : Hid (Below w.heap.size w w1) := HB.out.trans (hb1.mono HB.out.size)
        go_wp2_with fail
        go_ret2
        exact ⟨k, u4, HN.out, by rw [hx]; rfl, hV1.out, hB1.out⟩
    · have q4 : (s.size : Int) ≤ (pos s k : Int) := by omega
      have HC : Hid (code (rest s (pos s k)) ≠ 0) := by
        unfold Hid
        rw [code, if_pos (by rw [rest_size]; omega)]
        omega
      clear hS hB hp hk hlt
      generalize hx : pos s k = p at *
      go_wp2_with fail
      go_ret2
      exact ⟨k, u4, ⟨HK.out, by rw [hx]; exact HC.out⟩, by rw [hx]; rfl, HV.out, HB.out⟩
end Go.Proofs.YtnpgkmmflibmkaaDoor
