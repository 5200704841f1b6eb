/-
  Contract of impl.FileFind.
-/
import Derived.Test.YthgiekeiljflaaaDoorGF
import Derived.Test.YthgiekeiljflaaaDoorFlIxO
import Derived.Test.YthgiekeiljflaaaDoorUntil
import Derived.WalkKit
import Derived.ProofKit
import Derived.OpenShut
import Derived.Below
import Derived.WalkSmall
import Derived.BigQuiet
import Derived.Deep.QuietTactic
import Derived.Deep.RegionWith
import Derived.Handy
namespace Go.Proofs.YthgiekeiljflaaaDoor
open Go.ChangeShapes Go.WideShapes Go.ChangeAt Go.RowKit Go.PlainAid
set_option linter.unusedVariables false

set_option maxHeartbeats 4000000 in
theorem implFileFind (s key : ByteArray) (w : World) (hs : s.size ≤ 1048576) (hst : SumTab w) (a0 a1 a2 : Addr) (he : Errs w a0 a1 a2) : Calls Tryd.prog 11 #[.string s, .string key] w fun e w' => FfOk s key w' w.heap.size e ∧ Below w.heap.size w w' := by
  have HS : Hid (s.size ≤ 1048576) := hs
  have ST : Hid (SumTab w) := hst
  have ER : Hid (Errs w a0 a1 a2) := he
  have c1 := indexOfV s w hs hst a0 a1 a2 he
  clear hs hst he
  go_enter Tryd.func11, Tryd.ntmps11
  go_wp2_with fail
  refine c1.mono ?_
  rintro e X1 ⟨⟨v, P, rfl, hI, hO⟩, hb⟩
  have B1 : Hid (Below w.heap.size w X1) := hb
  obtain ⟨A, c, rfl, hl⟩ := sp_look hO.lies
  have HIx : Hid (IxI s P) := hI
  have HNm : Hid (∀ m, GoodF s m → P = (List.range m.length).map (spotOf m)) := fun m hm => by
    rcases hI with ⟨m', h1, h2⟩ | ⟨h1, _⟩
    · obtain rfl := hm.one h1
      exact h2
    · exact absurd hm (h1 m)
  have HSo : Hid (1 ≤ P.length → ∃ m, GoodF s m) := fun h => by
    rcases hI with ⟨m', h1, h2⟩ | ⟨_, h2⟩
    · exact ⟨m', h1⟩
    · rw [h2] at h
      simp at h
  have HN5 : Hid (P.length ≤ 5) := by
    unfold Hid
    rcases hI with ⟨m', h1, h2⟩ | ⟨_, h2⟩
    · rw [h2, List.length_map, List.length_range]
      exact h1.2.1.1
    · rw [h2]
      simp
  have q1 : (P.length : Int) ≤ 5 := by have := HN5.out; omega
  have HL : Hid (∀ j, j < P.length → ∃ g off, A = some ⟨g, off, none⟩ ∧ g < X1.heap.size ∧
    X1.cell? ⟨g, off + j * 5, none⟩ = some (.string (P.getD j default).key) ∧ X1.cell? ⟨g, off + j * 5 + 1, none⟩ = some (.int .i64 ((P.getD j default).at' : Int)) ∧ X1.cell? ⟨g, off + j * 5 + 2, none⟩ = some (.int .i64 ((P.getD j default).size : Int)) ∧
    X1.cell? ⟨g, off + j * 5 + 3, none⟩ = some (.int .i64 ((P.getD j default).first : Int)) ∧ X1.cell? ⟨g, off + j * 5 + 4, none⟩ = some (.int .i64 ((P.getD j default).last : Int))) := hl
  clear hI hO hb c1 hl
  generalize hn : P.length = n at *
  have HN : Hid (P.length = n) := hn
  clear hn
  go_wp2_with fail
  go_loopw [11] (fun v11 wr => ∃ k : Nat, k ≤ n ∧ v11 = .int .i64 (k : Int) ∧ Hid (∀ i, i < k → (P.getD i default).key ≠ key) ∧ Below X1.heap.size X1 wr) (fun i _ => n - (intOf i).toNat)
  case atStart => exact ⟨0, by omega, rfl, fun i hi => by omega, Below.refl _ _⟩
  case round =>
    obtain ⟨k, hk, rfl, HJ, hb⟩ := hrel
    have HB : Hid (Below X1.heap.size X1 wr) := hb
    clear hb
    by_cases hlt : k < n
    · have q4 : (k : Int) < (n : Int) := by omega
      obtain ⟨g, off, rfl, hg, e0, e1, e2, e3, e4⟩ := HL.out k hlt
      rw [← HB.out.cell (p := ⟨_, _, none⟩) hg] at e0 e1 e2 e3 e4
      obtain ⟨m, hm⟩ := HSo.out (by omega)
      have hPm := HNm.out m hm
      have hln : m.length = n := by rw [← HN.out, hPm, List.length_map, List.length_range]
      have HAt : Hid (∀ i, i < n → P.getD i default = spotOf m i) := fun i hi => by rw [hPm]; exact range_get m m.length i (by rw [hln]; exact hi)
      have HMg : Hid (GoodF s m ∧ m.length = n) := ⟨hm, hln⟩
      have HX : Hid (P.getD k default = spotOf m k) := HAt.out k hlt
      have HFit : Hid ((P.getD k default).at' ≤ 562949953421311 ∧ (P.getD k default).size ≤ 562949953421311) := by
        unfold Hid
        rw [HX.out]
        have := nums_le hm.2.1 k (by omega)
        exact ⟨this.2.1, this.2.2.1⟩
      have HBk : Hid (rbP (blkA s (P.getD k default)) = (sAt m k).pts ∧ (P.getD k default).key = (sAt m k).key) := by
        unfold Hid
        rw [HX.out]
        refine ⟨?_, rfl⟩
        have := ser_read hm.2.1 k (by omega)
        rw [← hm.text] at this
        exact congrArg Ser.pts this
      have BW : Hid (Below w.heap.size w wr) := B1.out.trans (HB.out.mono B1.out.size)
      clear hPm hln hm HX
      generalize hx : P.getD k default = x at *
      have HXk : Hid (P.getD k default = x) := hx
      clear hx hg
      obtain ⟨xk, xa, xz, xf, xl⟩ := x
      simp only at e0 e1 e2 e3 e4 HFit HBk
      have HBa : Hid (∀ cs, Below X1.heap.size X1 (wr.alloc (.cells cs 56))) := fun cs => HB.out.alloc HB.out.size _
      by_cases hkey : xk = key
      · have HF : Hid (FfAns s key (sAt m k).pts true) := by
          refine .inl ⟨rfl, m, k, HMg.out.1, by rw [HMg.out.2]; exact hlt, by rw [← HBk.out.2]; exact hkey, fun i hi => ?_, rfl⟩
          have h1 := HJ.out i hi
          rw [HAt.out i (by omega)] at h1
          exact h1
        subst hkey
        have KB0 : Hid (Blk (wr.alloc (.cells #[.string xk, .int .i64 (xa : Int), .int .i64 (xz : Int), .int .i64 (xf : Int), .int .i64 (xl : Int)] 56)).drew wr.heap.size #[.string xk, .int .i64 (xa : Int), .int .i64 (xz : Int), .int .i64 (xf : Int), .int .i64 (xl : Int)] 56) := Blk.new wr _ _
        have BB0 : Hid (Below w.heap.size w (wr.alloc (.cells #[.string xk, .int .i64 (xa : Int), .int .i64 (xz : Int), .int .i64 (xf : Int), .int .i64 (xl : Int)] 56)).drew) := (BW.out.alloc BW.out.size _).drew
        have S0 : Hid ((wr.alloc (.cells #[.string xk, .int .i64 (xa : Int), .int .i64 (xz : Int), .int .i64 (xf : Int), .int .i64 (xl : Int)] 56)).drew.cell? ⟨wr.heap.size, 0, none⟩ = some (.string xk) ∧ (wr.alloc (.cells #[.string xk, .int .i64 (xa : Int), .int .i64 (xz : Int), .int .i64 (xf : Int), .int .i64 (xl : Int)] 56)).drew.cell? ⟨wr.heap.size, 1, none⟩ = some (.int .i64 (xa : Int)) ∧ (wr.alloc (.cells #[.string xk, .int .i64 (xa : Int), .int .i64 (xz : Int), .int .i64 (xf : Int), .int .i64 (xl : Int)] 56)).drew.cell? ⟨wr.heap.size, 2, none⟩ = some (.int .i64 (xz : Int)) ∧ (wr.alloc (.cells #[.string xk, .int .i64 (xa : Int), .int .i64 (xz : Int), .int .i64 (xf : Int), .int .i64 (xl : Int)] 56)).drew.cell? ⟨wr.heap.size, 3, none⟩ = some (.int .i64 (xf : Int)) ∧ (wr.alloc (.cells #[.string xk, .int .i64 (xa : Int), .int .i64 (xz : Int), .int .i64 (xf : Int), .int .i64 (xl : Int)] 56)).drew.cell? ⟨wr.heap.size, 4, none⟩ = some (.int .i64 (xl : Int))) := ⟨KB0.out.cell 0 _ rfl, KB0.out.cell 1 _ rfl, KB0.out.cell 2 _ rfl, KB0.out.cell 3 _ rfl, KB0.out.cell 4 _ rfl⟩
        have cR := readerOfV s (wr.alloc (.cells #[.string xk, .int .i64 (xa : Int), .int .i64 (xz : Int), .int .i64 (xf : Int), .int .i64 (xl : Int)] 56)).drew
        go_wp2_with fail
        refine wp_region_until (fun w' => w'.cell? ⟨wr.heap.size, 0, none⟩ = some (.string xk) ∧ w'.cell? ⟨wr.heap.size, 1, none⟩ = some (.int .i64 (xa : Int)) ∧ w'.cell? ⟨wr.heap.size, 2, none⟩ = some (.int .i64 (xz : Int)) ∧ w'.cell? ⟨wr.heap.size, 3, none⟩ = some (.int .i64 (xf : Int)) ∧ w'.cell? ⟨wr.heap.size, 4, none⟩ = some (.int .i64 (xl : Int))) (fun _ => false) 6 (by rfl) (by kernel_rfl) ?_
        refine until_take 0 (v := ?_) (by rfl) (by kernel_rfl) (by exact fun _ _ _ h => h) (by rfl) ?_ S0.out ?_
        rotate_left
        · intro w hSw
          try dsimp only at hSw
          go_simp
          try with_reducible rfl
        try simp only [Act.put, List.setIfInBounds_toArray, List.set_cons_zero, List.set_cons_succ]
        refine until_take 2 (v := ?_) (by rfl) (by kernel_rfl) (by exact fun _ _ _ h => h) (by rfl) ?_ S0.out ?_
        rotate_left
        · intro w hSw
          try dsimp only at hSw
          go_simp
          try with_reducible rfl
        try simp only [Act.put, List.setIfInBounds_toArray, List.set_cons_zero, List.set_cons_succ]
        refine until_one 1 (by rfl) (by kernel_rfl) (fun K hK => ?_)
        go_simp
        refine cR.mono ?_
        rintro e Y1 ⟨rfl, hY1⟩
        have C1 : Hid (CurB Y1 (wr.alloc (.cells #[.string xk, .int .i64 (xa : Int), .int .i64 (xz : Int), .int .i64 (xf : Int), .int .i64 (xl : Int)] 56)).drew.heap.size s 0 91) := by rw [hY1]; exact Blk.new _ _ _
        have KB1 : Hid (Blk Y1 wr.heap.size #[.string xk, .int .i64 (xa : Int), .int .i64 (xz : Int), .int .i64 (xf : Int), .int .i64 (xl : Int)] 56) := by rw [hY1]; exact KB0.out.alloc _
        have BB1 : Hid (Below w.heap.size w Y1) := by rw [hY1]; exact BB0.out.alloc BB0.out.size _
        have GG : Hid (w.heap.size ≤ (wr.alloc (.cells #[.string xk, .int .i64 (xa : Int), .int .i64 (xz : Int), .int .i64 (xf : Int), .int .i64 (xl : Int)] 56)).drew.heap.size ∧ wr.heap.size ≠ (wr.alloc (.cells #[.string xk, .int .i64 (xa : Int), .int .i64 (xz : Int), .int .i64 (xf : Int), .int .i64 (xl : Int)] 56)).drew.heap.size) := ⟨BB0.out.size, by have := KB0.out.lt; omega⟩
        generalize (wr.alloc (.cells #[.string xk, .int .i64 (xa : Int), .int .i64 (xz : Int), .int .i64 (xf : Int), .int .i64 (xl : Int)] 56)).drew.heap.size = gr at *
        clear hY1 cR BB0 KB0
        go_wp2_with fail
        refine hK.out _ _ (fun _ _ => ⟨KB1.out.cell 0 _ rfl, KB1.out.cell 1 _ rfl, KB1.out.cell 2 _ rfl, KB1.out.cell 3 _ rfl, KB1.out.cell 4 _ rfl⟩) ?_
        clear hK K
        try simp only [Act.put, List.setIfInBounds_toArray, List.set_cons_zero, List.set_cons_succ]
        refine until_one 3 (by rfl) (by kernel_rfl) (fun K hK => ?_)
        go_simp
        refine (readBlockV s 0 gr ⟨xk, xa, xz, xf, xl⟩ Y1 w C1.out HS.out HFit.out BB1.out GG.out.1 ST.out a0 a1 a2 ER.out).mono ?_
        rintro e Y2 ⟨⟨v2, rfl, hO2⟩, _, hk2⟩
        rw [HBk.out.1] at hO2
        have KB2 : Hid (Blk Y2 wr.heap.size #[.string xk, .int .i64 (xa : Int), .int .i64 (xz : Int), .int .i64 (xf : Int), .int .i64 (xl : Int)] 56) := hk2.blk KB1.out GG.out.2
        have BB2 : Hid (Below w.heap.size w Y2) := BB1.out.trans (hk2.1.mono GG.out.1)
        have O2 : Hid (Owns Y2 w.heap.size 39 2 v2 (ptR (sAt m k).pts)) := hO2.mono BB1.out.size
        clear hk2 hO2
        go_wp2_with fail
        refine hK.out _ _ (fun _ _ => ⟨KB2.out.cell 0 _ rfl, KB2.out.cell 1 _ rfl, KB2.out.cell 2 _ rfl, KB2.out.cell 3 _ rfl, KB2.out.cell 4 _ rfl⟩) ?_
        clear hK K
        try simp only [Act.put, List.setIfInBounds_toArray, List.set_cons_zero, List.set_cons_succ]
        refine until_pure 4 (v := ?_) (by rfl) (by kernel_rfl) (by exact fun _ _ _ h => h) (by rfl) ?_ ?_
        rotate_left
        · intro w
          go_simp
          try with_reducible rfl
        try simp only [Act.put, List.setIfInBounds_toArray, List.set_cons_zero, List.set_cons_succ]
        refine until_pure 5 (v := ?_) (by rfl) (by kernel_rfl) (by exact fun _ _ _ h => h) (by rfl) ?_ ?_
        rotate_left
        · intro w
          go_simp
          try with_reducible rfl
        try simp only [Act.put, List.setIfInBounds_toArray, List.set_cons_zero, List.set_cons_succ]
        refine until_done (by kernel_rfl) ?_ _
        go_wp2_with fail
        refine bodyPost_ret (results_tmp2 rfl _ _ _) rfl ?_
        exact ⟨⟨_, _, true, rfl, HF.out, O2.out⟩, BB2.out⟩
      · have HKn : Hid (xk ≠ key) := hkey
        have hne := bytes_ne hkey
        clear hkey
        go_wp2_with fail
        go_roundw
        case rel =>
          refine ⟨k + 1, by omega, by go_num, fun i hi => ?_, HBa.out _⟩
          by_cases e : i = k
          · rw [e, HXk.out]; exact HKn.out
          · exact HJ.out i (by omega)
        case measure => simp [intOf]; omega
    · obtain rfl : k = n := by omega
      have BW : Hid (Below w.heap.size w wr) := B1.out.trans (HB.out.mono B1.out.size)
      have HF : Hid (FfAns s key [] false) := by
        refine .inr ⟨rfl, rfl, fun m hm j hj => ?_⟩
        have hPm := HNm.out m hm
        have hln : m.length = k := by rw [← HN.out, hPm, List.length_map, List.length_range]
        have h1 := HJ.out j (by omega)
        rw [hPm, range_get m m.length j hj] at h1
        exact h1
      go_wp2_with fail
      refine bodyPost_ret (results_tmp2 rfl _ _ _) rfl ?_
      exact ⟨⟨_, [], false, rfl, HF.out, Owns.nil _ _ _ _⟩, BW.out⟩
end Go.Proofs.YthgiekeiljflaaaDoor
