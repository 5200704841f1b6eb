/-
  Contract of impl.Routes.
-/
import Derived.Test.YtfloihegggkonaaRows
import Derived.Test.YtfloihegggkonaaRtMath
import Derived.Test.YtfloihegggkonaaBkLaw
import Derived.Test.YtfloihegggkonaaPtApp
import Derived.Test.YtfloihegggkonaaPtRun
import Derived.Test.YtfloihegggkonaaUntilS
import Derived.Test.YtfloihegggkonaaUntil
import Derived.Test.YtfloihegggkonaaBoImpl
namespace Go.Proofs.Ytfloihegggkonaa
open Go.ChangeShapes Go.WideShapes Go.ChangeAt Go.RowKit Go.PlainAid
set_option linter.unusedVariables false

theorem cell_alloc_k {w : World} {p : Addr} {x : Value} (h : w.cell? p = some x) (o : Obj) : (w.alloc o).cell? p = some x := by
  rw [((Below.refl w.heap.size w).alloc (Nat.le_refl _) o).cell (World.block_lt_of_cell? _ _ h)]
  exact h
theorem bk_cells (x y : Int) : ∀ u ∈ ([.int .i64 x, .int .i64 y] : List Value), u.oneCell' = true := by
  intro u hu
  simp at hu
  rcases hu with rfl | rfl <;> rfl
/-- How many bytes a text has. -/
def strSz : Value → Nat
  | .string s => s.size
  | _ => 0
theorem toList_ne {s : ByteArray} (h : s.size ≠ 0) : (s.toList == []) = false ∧ s.toList.isEmpty = false ∧ ¬ s.toList = [] ∧ ¬ s = ByteArray.empty := by
  have h0 : ¬ s.toList = [] := fun e => by
    rw [Lib.toList_data] at e
    exact h (by show s.data.size = 0; rw [← Array.length_toList, e]; rfl)
  refine ⟨by simpa using h0, by simpa using h0, h0, fun e => h (by rw [e]; rfl)⟩
theorem empty_of_size {s : ByteArray} (h : s.size = 0) : s = ⟨#[]⟩ := ByteArray.ext (Array.eq_empty_of_size_eq_zero h)
theorem two_of {l : List Int} (h : l.length = 2) : ∃ x y, l = [x, y] := by
  match l, h with
  | [x, y], _ => exact ⟨x, y, rfl⟩
set_option maxRecDepth 20000 in
set_option maxHeartbeats 4000000 in
theorem implRoutes (s : ByteArray) (w : World) (hs : s.size ≤ 1048576) : Calls Try.prog 16 #[.string s] w fun e w' => ((∃ l u, RtA s l ∧ e = .returned (.tuple #[u, .bool true]) ∧ Owns w' w.heap.size 57 2 u (ptR l)) ∨ ((∀ l, ¬ RtA s l) ∧ ∃ u, e = .returned (.tuple #[u, .bool false]) ∧ Owns w' w.heap.size 57 2 u [])) ∧ Below w.heap.size w w' := by
  go_enter Try.func16, Try.ntmps16
  go_wp2_with fail
  go_loopw [0, 4] (fun v0 v4 wr => ∃ (r : ByteArray) (l : List Pnt), v0 = .string r ∧ Hid (r.size ≤ 1048576 ∧ l.length ≤ 8 ∧ PrB s l r) ∧ Owns wr w.heap.size 57 2 v4 (ptR l) ∧ Below w.heap.size w wr) (fun d _ _ => strSz d)
  case atStart => exact ⟨s, [], rfl, ⟨hs, by simp, rfl⟩, Owns.nil _ _ _ _, Below.refl _ _⟩
  case round =>
    obtain ⟨r, l, rfl, HI, hO, hb⟩ := hrel
    have HO : Hid (Owns wr w.heap.size 57 2 u4 (ptR l)) := hO
    have HB1 : Hid (Below w.heap.size w wr) := hb
    obtain ⟨gA, gm, gc, rfl⟩ := hO.shape
    have hgm : gm = l.length := by
      have := hO.lies.room.1
      rw [ptR_length] at this
      exact this
    subst hgm
    clear hO hb
    by_cases hr : r.size = 0
    · have HR : Hid (r.size = 0) := hr
      obtain rfl := empty_of_size hr
      have hq := HI.out
      have c1 := fun wx (h : Below wr.heap.size wr wx) => implBucketsOk l (.slice gA l.length gc) wx wx.heap.size ((HO.out.on h).lies) (by omega) (Nat.le_refl _)
      have HP : Hid (PrB s l ⟨#[]⟩) := hq.2.2
      have H8 : Hid (l.length ≤ 8) := hq.2.1
      clear hr hq
      go_wp2_with fail
      refine (c1 _ (Below.refl _ _)).mono ?_
      rintro e w1 ⟨rfl, hb1⟩
      have B1 : Hid (Below w.heap.size w w1) := HB1.out.trans (hb1.mono HB1.out.size)
      have O1 : Hid (Owns w1 w.heap.size 57 2 (.slice gA l.length gc) (ptR l)) := HO.out.on hb1
      have HV : Hid (bokFrom 0 l = bokFrom 0 l) := rfl
      clear hb1
      generalize hbv : bokFrom 0 l = b at *
      have HBV : Hid (bokFrom 0 l = b) := hbv
      clear hbv HV
      cases b
      · go_wp2_with fail
        go_ret2
        exact ⟨.inr ⟨rt_bad HP.out HBV.out, _, rfl, Owns.nil _ _ _ _⟩, B1.out⟩
      · go_wp2_with fail
        go_ret2
        exact ⟨.inl ⟨l, _, ⟨_, rfl, HP.out, H8.out, HBV.out⟩, rfl, O1.out⟩, B1.out⟩
    · obtain ⟨t1, t2, t3, t4⟩ := toList_ne hr
      have HR : Hid (r.size ≠ 0) := hr
      have c1 := fun wx => implReadVars r 2 wx HI.out.1 (by omega) (by omega)
      have q1 : (r.size : Int) ≤ 1048576 := by have := HI.out.1; omega
      clear hr
      go_wp2_with fail
      refine (c1 _).mono ?_
      rintro e w1 ⟨hR, hb1⟩
      have B1 : Hid (Below w.heap.size w w1) := HB1.out.trans (hb1.mono HB1.out.size)
      have O1 : Hid (Owns w1 w.heap.size 57 2 (.slice gA l.length gc) (ptR l)) := HO.out.on hb1
      clear hb1
      rcases hR with ⟨m, n, up, hrd, rfl, hN⟩ | ⟨hno, rfl⟩
      · obtain ⟨x, y, rfl⟩ := two_of hrd.length
        have HRD : Hid (Rd r 2 [x, y] n) := hrd
        have hle := hrd.le
        obtain ⟨Ap, cp, rfl, _, _⟩ := hN.shape
        obtain ⟨gp, rfl, _, _⟩ := hN.block (by simp)
        have hc1 := hN.cell 0 (by simp)
        have hc2 := hN.cell 1 (by simp)
        replace hc1 : w1.cell? ⟨gp, 0, none⟩ = some (.int .i64 x) := hc1
        replace hc2 : w1.cell? ⟨gp, 1, none⟩ = some (.int .i64 y) := hc2
        have HLE : Hid (2 ≤ n ∧ n ≤ r.size) := hle
        have q2 : (n : Int) ≤ (r.size : Int) := by omega
        have q3 : ((n : Int) == 0) = false := by simp; omega
        have q4 : ¬ n = 0 := by omega
        simp only [List.length_cons, List.length_nil, Nat.zero_add] at *
        have hl8 := HI.out.2.1
        clear hN hrd hle
        by_cases h8 : l.length = 8
        · have H8 : Hid (l.length = 8) := h8
          have z8 : ((l.length : Int) == 8) = true := by simp; omega
          clear hl8 h8
          go_wp2_with fail
          go_ret2
          exact ⟨.inr ⟨rt_many HI.out.2.2 HR.out (by have := H8.out; omega), _, rfl, Owns.nil _ _ _ _⟩, B1.out⟩
        · have z8 : ((l.length : Int) == 8) = false := by simp; omega
          have H8 : Hid (l.length + 1 ≤ 8) := by unfold Hid; omega
          have hz : w.heap.size ≤ w1.drew.heap.size := B1.out.size
          obtain ⟨nA, nm, nc, w5, r5, hO5, hb5, hk5, _⟩ := run_append_row (P := Try.prog) w1.drew 29 29 57 (.agg #[.int .i64 0, .int .i64 0]) 2 16 Try.underlying29 Try.infoBk rfl (by omega) w.heap.size (.slice gA l.length gc) (ptR l) (O1.out.kept fun _ _ _ => rfl) [.int .i64 x, .int .i64 y] rfl (bk_cells x y) (by rw [ptR_length]; omega) (by omega) hz
          have B5 : Hid (Below w.heap.size w w5) := (B1.out.drew).trans hb5
          have O5 : Hid (Owns w5 w.heap.size 57 2 (.slice nA nm nc) (ptR (l ++ [⟨x, y⟩]))) := by unfold Hid; rw [ptR_append]; exact hO5
          have S0 : Hid (w1.drew.cell? ⟨gp, 0, none⟩ = some (.int .i64 x) ∧ w1.drew.cell? ⟨gp, 1, none⟩ = some (.int .i64 y)) := ⟨hc1, hc2⟩
          clear hO5 hb5 hk5 hz
          have HP5 : Hid (PrB s (l ++ [⟨x, y⟩]) (r.extract n r.size)) := HI.out.2.2.snoc (x := ⟨x, y⟩) HRD.out
          clear hl8 h8 hc1 hc2
          go_wp2_with fail
          refine wp_region_until (fun w' => w'.cell? ⟨gp, 0, none⟩ = some (.int .i64 x) ∧ w'.cell? ⟨gp, 1, none⟩ = some (.int .i64 y)) (fun i => i == 9 || i == 10) 11 (by rfl) (by kernel_rfl) ?_
          refine until_take 0 (v := ?_) (by rfl) (by kernel_rfl) (by exact fun _ _ _ h => h) (by rfl) ?_ S0.out ?_
          rotate_left
          · intro w hSw
            try dsimp only at hSw
            go_simp
            try with_reducible rfl
          try simp only [Act.put, List.setIfInBounds_toArray, List.set_cons_zero, List.set_cons_succ]
          refine until_take 1 (v := ?_) (by rfl) (by kernel_rfl) (by exact fun _ _ _ h => h) (by rfl) ?_ S0.out ?_
          rotate_left
          · intro w hSw
            try dsimp only at hSw
            go_simp
            try with_reducible rfl
          try simp only [Act.put, List.setIfInBounds_toArray, List.set_cons_zero, List.set_cons_succ]
          refine until_take 2 (v := ?_) (by rfl) (by kernel_rfl) (by exact fun _ _ _ h => h) (by rfl) ?_ S0.out ?_
          rotate_left
          · intro w hSw
            try dsimp only at hSw
            go_simp
            try with_reducible rfl
          try simp only [Act.put, List.setIfInBounds_toArray, List.set_cons_zero, List.set_cons_succ]
          refine until_take 3 (v := ?_) (by rfl) (by kernel_rfl) (by exact fun _ _ _ h => h) (by rfl) ?_ S0.out ?_
          rotate_left
          · intro w hSw
            try dsimp only at hSw
            go_simp
            try with_reducible rfl
          try simp only [Act.put, List.setIfInBounds_toArray, List.set_cons_zero, List.set_cons_succ]
          refine until_take 4 (v := ?_) (by rfl) (by kernel_rfl) (by exact fun _ _ _ h => h) (by rfl) ?_ S0.out ?_
          rotate_left
          · intro w hSw
            try dsimp only at hSw
            go_simp
            try with_reducible rfl
          try simp only [Act.put, List.setIfInBounds_toArray, List.set_cons_zero, List.set_cons_succ]
          refine until_take 5 (v := ?_) (by rfl) (by kernel_rfl) (by exact fun _ _ _ h => h) (by rfl) ?_ S0.out ?_
          rotate_left
          · intro w hSw
            try dsimp only at hSw
            go_simp
            try with_reducible rfl
          try simp only [Act.put, List.setIfInBounds_toArray, List.set_cons_zero, List.set_cons_succ]
          refine until_take 6 (v := ?_) (by rfl) (by kernel_rfl) (by exact fun _ _ _ h => h) (by rfl) ?_ S0.out ?_
          rotate_left
          · intro w hSw
            try dsimp only at hSw
            go_simp
            try with_reducible rfl
          try simp only [Act.put, List.setIfInBounds_toArray, List.set_cons_zero, List.set_cons_succ]
          refine until_take 7 (v := ?_) (by rfl) (by kernel_rfl) (by exact fun _ _ _ h => h) (by rfl) ?_ S0.out ?_
          rotate_left
          · intro w hSw
            try dsimp only at hSw
            go_simp
            try with_reducible rfl
          try simp only [Act.put, List.setIfInBounds_toArray, List.set_cons_zero, List.set_cons_succ]
          refine until_one 8 (by rfl) (by kernel_rfl) (fun K hK => ?_)
          go_simp
          refine hK.out _ _ (fun _ h => ⟨cell_alloc_k h.1 _, cell_alloc_k h.2 _⟩) ?_
          clear hK K
          try simp only [Act.put, List.setIfInBounds_toArray, List.set_cons_zero, List.set_cons_succ]
          refine until_one 9 (by rfl) (by kernel_rfl) (fun K hK => ?_)
          refine step_append_run (by rfl) (.tmp 21) (.tmp 29) 29 (by rfl) _ _ _ _ (by rfl) (by rfl) r5 ?_
          refine hK.out _ _ (fun h => by cases h) ?_
          clear hK K
          try simp only [Act.put, List.setIfInBounds_toArray, List.set_cons_zero, List.set_cons_succ]
          refine until_one 10 (by rfl) (by kernel_rfl) (fun K hK => ?_)
          go_simp
          refine hK.out _ _ (fun h => by cases h) ?_
          clear hK K
          try simp only [Act.put, List.setIfInBounds_toArray, List.set_cons_zero, List.set_cons_succ]
          refine until_done (by kernel_rfl) ?_ _
          go_wp2_with fail
          go_roundw
          case rel => exact ⟨r.extract n r.size, l ++ [⟨x, y⟩], rfl, ⟨by rw [ByteArray.size_extract]; have := HI.out.1; omega, by rw [List.length_append]; exact H8.out, HP5.out⟩, O5.out, B5.out⟩
          case measure =>
            show (r.extract n r.size).size < r.size
            rw [ByteArray.size_extract]
            have := HLE.out
            omega
      · have HNO : Hid (RdNo r 2) := hno
        clear hno
        go_wp2_with fail
        go_ret2
        exact ⟨.inr ⟨rt_cut HI.out.2.2 HR.out HNO.out, _, rfl, Owns.nil _ _ _ _⟩, B1.out⟩
end Go.Proofs.Ytfloihegggkonaa
