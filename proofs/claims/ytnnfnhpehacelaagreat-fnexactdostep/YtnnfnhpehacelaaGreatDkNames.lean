/-
  The contract of spec.l4Names: the links behind the first moves.
-/
import Derived.Test.YtnnfnhpehacelaaGreatRows
import Derived.Test.YtnnfnhpehacelaaGreatDkApply
namespace Go.Proofs.YtnnfnhpehacelaaGreat
open Go.ChangeShapes Go.WideShapes Go.ChangeAt Go.RowKit Go.PlainAid
set_option linter.unusedVariables false

theorem without_len (l : List Lnk) (name : ByteArray) : (without l name).length ≤ l.length := List.length_filter_le _ _
theorem apply_len (l : List Lnk) (m : Mov) : ((apply l m).getD l).length ≤ l.length + 1 := by
  unfold apply
  split
  · simp
  · split
    · simp only [Option.getD_some, withL, ins_length]
      exact Nat.succ_le_succ (without_len _ _)
    · split
      · split
        · simp only [Option.getD_some, withL, ins_length]
          exact Nat.succ_le_succ (Nat.le_trans (without_len _ _) (without_len _ _))
        · split
          · exact Nat.le_succ_of_le (without_len _ _)
          · simp
      · simp
theorem names_snoc (l : List Lnk) (ms : List Mov) (m : Mov) : names l (ms ++ [m]) = (apply (names l ms) m).getD (names l ms) := by
  induction ms generalizing l with
  | nil => rfl
  | cons x r ih => exact ih _
theorem names_len (l : List Lnk) (ms : List Mov) : (names l ms).length ≤ l.length + ms.length := by
  induction ms generalizing l with
  | nil => simp [names]
  | cons x r ih =>
    have h1 := ih ((apply l x).getD l)
    have h2 := apply_len l x
    rw [names, List.length_cons]
    omega
theorem names_take (l : List Lnk) (ms : List Mov) (k : Nat) (h : k < ms.length) : names l (ms.take (k + 1)) = (apply (names l (ms.take k)) (ms.getD k default)).getD (names l (ms.take k)) := by
  rw [take_getD ms k h, names_snoc]

set_option maxRecDepth 20000 in
set_option maxHeartbeats 1000000 in
theorem namesV (d : Dsk) (v : Value) (n : Int) (w : World) (B : Nat) (hv : DiskV w B v d) (hf : Fits d) (hn : d.dir.length + d.movs.length ≤ 1048575) (hB : B ≤ w.heap.size) :
    Calls Tryz.prog 52 #[v, .int .i64 n] w fun e w' => ∃ u, e = .returned u ∧ Owns w' w.heap.size 79 2 u (lnkR (names d.dir (d.movs.take n.toNat))) ∧ Below w.heap.size w w' := by
  obtain ⟨v1, v2, v3, rfl, h1, h2, h3⟩ := hv
  have HL : Hid (Lies w B 2 v2 (lnkR d.dir)) := h2
  have HB : Hid (B ≤ w.heap.size) := hB
  have HN : Hid (d.dir.length + d.movs.length ≤ 1048575) := hn
  have HX : Hid (∀ j, j < d.movs.length → (d.movs.getD j default).name.size ≤ 9223372036854775807 ∧ (d.movs.getD j default).to.size ≤ 9223372036854775807) := fun j hj => hf.mx _ (getD_mem _ _ hj)
  obtain ⟨A3, c3, rfl, h3'⟩ := mov_look h3
  have HM : Hid (∀ j, j < d.movs.length → ∃ g off, A3 = some ⟨g, off, none⟩ ∧ g < B ∧ _) := h3'
  obtain ⟨A2, c2, rfl, _⟩ := lnk_look h2
  clear h1 h2 h3 h3' hf hB hn
  have q1 : (d.movs.length : Int) ≤ 1048575 := by have := HN.out; omega
  have HT : Hid (∀ k, k < d.movs.length → names d.dir (d.movs.take (k + 1)) = (apply (names d.dir (d.movs.take k)) (d.movs.getD k default)).getD (names d.dir (d.movs.take k))) := fun k hk => names_take _ _ k hk
  have HK : Hid (∀ k, (names d.dir (d.movs.take k)).length ≤ 1048575) := fun k => by
    have h4 := names_len d.dir (d.movs.take k)
    rw [List.length_take] at h4
    have := HN.out
    omega
  generalize hM : d.movs.length = M at *
  generalize hD : d.dir.length = D at *
  have B0 : Hid (Below w.heap.size w ((w.alloc (.cells #[.int .i64 d.room, .int .i64 d.next, v1, .slice A2 D c2, .slice A3 M c3] 35)).alloc (.cells #[] 79))) := below_alloc2' w _ _
  have K0 : Hid (Blk ((w.alloc (.cells #[.int .i64 d.room, .int .i64 d.next, v1, .slice A2 D c2, .slice A3 M c3] 35)).alloc (.cells #[] 79)) w.heap.size #[.int .i64 d.room, .int .i64 d.next, v1, .slice A2 D c2, .slice A3 M c3] 35) := (Blk.new w #[.int .i64 d.room, .int .i64 d.next, v1, .slice A2 D c2, .slice A3 M c3] 35).alloc (.cells #[] 79)
  have hE := Owns.empty (w.alloc (.cells #[.int .i64 d.room, .int .i64 d.next, v1, .slice A2 D c2, .slice A3 M c3] 35)) (w.heap.size + 1) 79 2 (by simp)
  simp only [World.size_alloc] at hE
  have hL2 := HL.out.on (B0.out.mono HB.out)
  have s1 : ([] : List (List Value)).length + (lnkR d.dir).length ≤ 2097152 := by rw [lnkR_length, hD]; have := HN.out; simp; omega
  have s2 : w.heap.size + 1 ≤ ((w.alloc (.cells #[.int .i64 d.room, .int .i64 d.next, v1, .slice A2 D c2, .slice A3 M c3] 35)).alloc (.cells #[] 79)).heap.size := by simp
  have s3 := lnk_one d.dir
  go_enter Tryz.func52, Tryz.ntmps52
  go_wp2_with (at_builtin; refine wpList_append_all (w := (w.alloc (.cells #[.int .i64 d.room, .int .i64 d.next, v1, .slice A2 D c2, .slice A3 M c3] 35)).alloc (.cells #[] 79)) rfl (.tmp 7) (.tmp 9) 32 79 (.agg #[.string ⟨#[]⟩, .int .i64 0]) 2 24 rfl Tryz.underlying32 Tryz.infoLnk rfl (by omega) (w.heap.size + 1) (.slice (some ⟨w.heap.size + 1, 0, none⟩) 0 0) (.slice A2 D c2) [] (lnkR d.dir) B rfl hE hL2 s3 rfl s1 (by omega) s2 ?_; intro v' w2 hO2 hb2 _ _)
  have K2 : Hid (Blk w2 w.heap.size #[.int .i64 d.room, .int .i64 d.next, v1, .slice A2 D c2, .slice A3 M c3] 35) := K0.out.on hb2 (Nat.lt_succ_self _)
  have B2 : Hid (Below w.heap.size w w2) := B0.out.trans (hb2.mono (Nat.le_succ _))
  have O2 : Hid (Owns w2 (w.heap.size + 1) 79 2 v' (lnkR d.dir)) := hO2
  clear hE hL2 s1 s2 s3 hO2 hb2 K0 B0
  go_loopw [5, 6] (fun v5 v6 wr => ∃ k : Nat, k ≤ M ∧ k ≤ n.toNat ∧ v6 = .int .i64 (k : Int) ∧ Owns wr (w.heap.size + 1) 79 2 v5 (lnkR (names d.dir (d.movs.take k))) ∧ Blk wr w.heap.size #[.int .i64 d.room, .int .i64 d.next, v1, .slice A2 D c2, .slice A3 M c3] 35 ∧ Below w.heap.size w wr) (fun _ i _ => M - (intOf i).toNat)
  case atStart => exact ⟨0, by omega, by omega, rfl, O2.out, K2.out, B2.out⟩
  case round =>
    obtain ⟨k, hk, hk2, rfl, hO, hX, hb⟩ := hrel
    have HO : Hid (Owns wr (w.heap.size + 1) 79 2 u5 (lnkR (names d.dir (d.movs.take k)))) := hO
    have HXX : Hid (Blk wr w.heap.size #[.int .i64 d.room, .int .i64 d.next, v1, .slice A2 D c2, .slice A3 M c3] 35) := hX
    have HBB : Hid (Below w.heap.size w wr) := hb
    have x4 := HXX.out.cell 4 _ rfl
    clear hO hX hb
    by_cases hlt : (k : Int) < n
    · by_cases hlm : k < M
      · have q4 : (k : Int) < (M : Int) := by omega
        obtain ⟨g, off, rfl, hg, hc0, hc1, hc2, hc3⟩ := HM.out k hlm
        have hgw : g < w.heap.size := Nat.lt_of_lt_of_le hg HB.out
        rw [← HBB.out.cell (p := ⟨_, _, none⟩) hgw] at hc0 hc1 hc2 hc3
        have hx := HX.out k hlm
        have c1 := applyV (names d.dir (d.movs.take k)) u5 (d.movs.getD k default) wr wr.heap.size HO.out.lies (HK.out k) (Nat.le_refl _) hx.1 hx.2
        unfold movV at c1
        have T1 := HT.out k hlm
        obtain ⟨A5, n5, c5, rfl⟩ := HO.out.shape
        generalize d.movs.getD k default = m at *
        generalize m.kind = m1 at *
        generalize m.name = m2 at *
        generalize m.to = m3 at *
        generalize m.id = m4 at *
        generalize hw0 : w.heap.size = ws at *
        go_wp2_with fail
        refine c1.mono ?_
        rintro e w3 ⟨ha, hb3⟩
        have X3 : Hid (Blk w3 ws #[.int .i64 d.room, .int .i64 d.next, v1, .slice A2 D c2, .slice (some ⟨g, off, none⟩) M c3] 35) := HXX.out.on hb3 HXX.out.lt
        have S3 : Hid (ws + 1 ≤ wr.heap.size) := Nat.succ_le_of_lt HXX.out.lt
        have B3 : Hid (Below ws w w3) := HBB.out.trans (hb3.mono (Nat.le_of_lt HXX.out.lt))
        have O3 : Hid (Owns w3 (ws + 1) 79 2 (.slice A5 n5 c5) (lnkR (names d.dir (d.movs.take k)))) := HO.out.on hb3
        rcases hap : apply (names d.dir (d.movs.take k)) m with _ | r
        · rw [hap] at ha
          subst ha
          go_wp2_with fail
          go_roundw
          case rel => exact ⟨k + 1, by omega, by omega, by go_num, by rw [T1, hap]; exact O3.out, X3.out, B3.out⟩
          case measure => simp [intOf]; omega
        · rw [hap] at ha
          obtain ⟨u, rfl, hO3⟩ := ha
          have O4 : Hid (Owns w3 (ws + 1) 79 2 u (lnkR r)) := hO3.mono S3.out
          clear hO3
          go_wp2_with fail
          go_roundw
          case rel => exact ⟨k + 1, by omega, by omega, by go_num, by rw [T1, hap]; exact O4.out, X3.out, B3.out⟩
          case measure => simp [intOf]; omega
      · obtain rfl : k = M := by omega
        go_wp2_with fail
        go_ret
        refine ⟨_, rfl, ?_, HBB.out⟩
        have h5 := HO.out
        rw [← hM, List.take_length] at h5
        rw [List.take_of_length_le (by omega)]
        exact h5.mono (Nat.le_succ _)
    · have hd : decide ((k : Int) < n) = false := decide_eq_false hlt
      have hkn : k = n.toNat := by omega
      go_wp2_with fail
      go_ret
      refine ⟨_, rfl, ?_, HBB.out⟩
      rw [← hkn]
      exact HO.out.mono (Nat.le_succ _)
end Go.Proofs.YtnnfnhpehacelaaGreat
