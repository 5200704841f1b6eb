/- EgI2 EgShelf -/
import Derived.Test.YtpmgndgkmffcnaaGreatDoorQd37
import Derived.Test.YtpmgndgkmffcnaaGreatDoorQd7
import Derived.WalkKit
import Derived.ProofKit
import Derived.OpenShut
import Derived.Below
import Derived.WalkSmall
import Derived.BigQuiet
import Derived.Deep.QuietTactic
import Derived.Deep.RegionWith
import Derived.Handy
import Derived.Shelf.SlGeneric
import Derived.Ground.SlgmProg
import Derived.Ground.SlgnProg
import Derived.Shelf.SlicesE.Clone
import Derived.Shelf.SlicesG.CompactS
import Derived.Shelf.SortM.Plain
import Derived.Shelf.SortM.SortNone
import Derived.Test.YtpmgndgkmffcnaaGreatDoorProg
open List (setIfInBounds_toArray set_cons_zero set_cons_succ)
namespace Go.Proofs.YtpmgndgkmffcnaaGreatDoor
open Go.ChangeShapes Go.WideShapes Go.ChangeAt Go.RowKit Go.PlainAid
set_option linter.unusedVariables false
set_option maxHeartbeats 4000000 in
theorem findBlockV (s key : ByteArray) (P : List Spot) (v : Value) (w : World) (BB : Nat) (hI : IxI s P) (hO : Lies w BB 5 v (spR P)) (hBB : BB ≤ w.heap.size) (hs : s.size ≤ 1048576) (hst : SumTab w) (a0 a1 a2 : Addr) (he : Errs w a0 a1 a2) : Calls Tryz.prog 204 #[.string s, v, .string key] w fun e w' => FfOk s key w' w.heap.size e ∧ Below w.heap.size w w' := by
 have HS : Hid (s.size ≤ 1048576) := hs
 have ST : Hid (SumTab w) := hst
 have ER : Hid (Errs w a0 a1 a2) := he
 clear hs hst he
 obtain ⟨X1, hX1⟩ : ∃ X1, X1 = w := ⟨_, rfl⟩
 rw [← hX1] at hO
 have HX1 : Hid (X1 = w) := hX1
 have B1 : Hid (Below w.heap.size w X1) := by unfold Hid; rw [hX1]; exact Below.refl _ _
 obtain ⟨A, c, rfl, hl⟩ := sp_look (hO.mono (show BB ≤ X1.heap.size by rw [hX1]; exact hBB))
 clear hX1
 have HIx : Hid (IxI s P) := hI
 have HNm : Hid (∀ m, GoodF s m → P = (List.range m.length).map (spotOf m)) := fun m hm => by
  rcases hI with ⟨m', h1, h2⟩ | ⟨h1, _⟩
  ·obtain rfl := hm.one h1
   exact h2
  ·exact absurd hm (h1 m)
 have HSo : Hid (1 ≤ P.length → ∃ m, GoodF s m) := fun h => by
  rcases hI with ⟨m', h1, h2⟩ | ⟨_, h2⟩
  ·exact ⟨m', h1⟩
  ·rw [h2] at h
   simp at h
 have HN5 : Hid (P.length ≤ 5) := by
  unfold Hid
  rcases hI with ⟨m', h1, h2⟩ | ⟨_, h2⟩
  ·rw [h2, List.length_map, List.length_range]
   exact h1.2.1.1
  ·rw [h2]
   simp
 have q1 : (P.length : Int) ≤ 5 := by have := HN5.out; omega
 have HL : Hid (∀ j, j < P.length → ∃ g off, A = some ⟨g, off, none⟩ ∧ g < X1.heap.size ∧
  X1.cell? ⟨g, off + j * 5, none⟩ = some (.string (P.getD j default).key) ∧ X1.cell? ⟨g, off + j * 5 + 1, none⟩ = some (.int .i64 ((P.getD j default).at' : Int)) ∧ X1.cell? ⟨g, off + j * 5 + 2, none⟩ = some (.int .i64 ((P.getD j default).size : Int)) ∧
  X1.cell? ⟨g, off + j * 5 + 3, none⟩ = some (.int .i64 ((P.getD j default).first : Int)) ∧ X1.cell? ⟨g, off + j * 5 + 4, none⟩ = some (.int .i64 ((P.getD j default).last : Int))) := hl
 clear hI hO hl hBB
 generalize hn : P.length = n at *
 have HN : Hid (P.length = n) := hn
 clear hn
 obtain rfl : w = X1 := HX1.out.symm
 go_enter Tryz.func204, Tryz.ntmps204
 go_wp2_with fail
 go_loopw [12] (fun v12 wr => ∃ k : Nat, k ≤ n ∧ v12 = .int .i64 (k : Int) ∧ Hid (∀ i, i < k → (P.getD i default).key ≠ key) ∧ Below w.heap.size w wr) (fun i _ => n - (intOf i).toNat)
 case atStart => exact ⟨0, by omega, rfl, fun i hi => by omega, Below.refl _ _⟩
 case round =>
  obtain ⟨k, hk, rfl, HJ, hb⟩ := hrel
  have HB : Hid (Below w.heap.size w wr) := hb
  clear hb
  by_cases hlt : k < n
  ·have q4 : (k : Int) < (n : Int) := by omega
   obtain ⟨g, off, rfl, hg, e0, e1, e2, e3, e4⟩ := HL.out k hlt
   rw [← HB.out.cell (p := ⟨_, _, none⟩) hg] at e0 e1 e2 e3 e4
   obtain ⟨m, hm⟩ := HSo.out (by omega)
   have hPm := HNm.out m hm
   have hln : m.length = n := by rw [← HN.out, hPm, List.length_map, List.length_range]
   have HAt : Hid (∀ i, i < n → P.getD i default = spotOf m i) := fun i hi => by rw [hPm]; exact range_get m m.length i (by rw [hln]; exact hi)
   have HMg : Hid (GoodF s m ∧ m.length = n) := ⟨hm, hln⟩
   have HX : Hid (P.getD k default = spotOf m k) := HAt.out k hlt
   have HFit : Hid ((P.getD k default).at' ≤ 562949953421311 ∧ (P.getD k default).size ≤ 562949953421311) := by
    unfold Hid
    rw [HX.out]
    have := nums_le hm.2.1 k (by omega)
    exact ⟨this.2.1, this.2.2.1⟩
   have HBk : Hid (rbP (blkA s (P.getD k default)) = (sAt m k).pts ∧ (P.getD k default).key = (sAt m k).key) := by
    unfold Hid
    rw [HX.out]
    refine ⟨?_, rfl⟩
    have := ser_read hm.2.1 k (by omega)
    rw [← hm.text] at this
    exact congrArg Ser.pts this
   have BW : Hid (Below w.heap.size w wr) := B1.out.trans (HB.out.mono B1.out.size)
   clear hPm hln hm HX
   generalize hx : P.getD k default = x at *
   have HXk : Hid (P.getD k default = x) := hx
   clear hx hg
   obtain ⟨xk, xa, xz, xf, xl⟩ := x
   simp only at e0 e1 e2 e3 e4 HFit HBk
   have HBa : Hid (∀ cs, Below w.heap.size w (wr.alloc (.cells cs 116))) := fun cs => HB.out.alloc HB.out.size _
   by_cases hkey : xk = key
   ·have HF : Hid (FfAns s key (sAt m k).pts true) := by
     refine .inl ⟨rfl, m, k, HMg.out.1, by rw [HMg.out.2]; exact hlt, by rw [← HBk.out.2]; exact hkey, fun i hi => ?_, rfl⟩
     have h1 := HJ.out i hi
     rw [HAt.out i (by omega)] at h1
     exact h1
    subst hkey
    have KB0 : Hid (Blk (wr.alloc (.cells #[.string xk, .int .i64 (xa : Int), .int .i64 (xz : Int), .int .i64 (xf : Int), .int .i64 (xl : Int)] 116)).drew wr.heap.size #[.string xk, .int .i64 (xa : Int), .int .i64 (xz : Int), .int .i64 (xf : Int), .int .i64 (xl : Int)] 116) := Blk.new wr _ _
    have BB0 : Hid (Below w.heap.size w (wr.alloc (.cells #[.string xk, .int .i64 (xa : Int), .int .i64 (xz : Int), .int .i64 (xf : Int), .int .i64 (xl : Int)] 116)).drew) := (BW.out.alloc BW.out.size _).drew
    have S0 : Hid ((wr.alloc (.cells #[.string xk, .int .i64 (xa : Int), .int .i64 (xz : Int), .int .i64 (xf : Int), .int .i64 (xl : Int)] 116)).drew.cell? ⟨wr.heap.size, 0, none⟩ = some (.string xk) ∧ (wr.alloc (.cells #[.string xk, .int .i64 (xa : Int), .int .i64 (xz : Int), .int .i64 (xf : Int), .int .i64 (xl : Int)] 116)).drew.cell? ⟨wr.heap.size, 1, none⟩ = some (.int .i64 (xa : Int)) ∧ (wr.alloc (.cells #[.string xk, .int .i64 (xa : Int), .int .i64 (xz : Int), .int .i64 (xf : Int), .int .i64 (xl : Int)] 116)).drew.cell? ⟨wr.heap.size, 2, none⟩ = some (.int .i64 (xz : Int)) ∧ (wr.alloc (.cells #[.string xk, .int .i64 (xa : Int), .int .i64 (xz : Int), .int .i64 (xf : Int), .int .i64 (xl : Int)] 116)).drew.cell? ⟨wr.heap.size, 3, none⟩ = some (.int .i64 (xf : Int)) ∧ (wr.alloc (.cells #[.string xk, .int .i64 (xa : Int), .int .i64 (xz : Int), .int .i64 (xf : Int), .int .i64 (xl : Int)] 116)).drew.cell? ⟨wr.heap.size, 4, none⟩ = some (.int .i64 (xl : Int))) := ⟨KB0.out.cell 0 _ rfl, KB0.out.cell 1 _ rfl, KB0.out.cell 2 _ rfl, KB0.out.cell 3 _ rfl, KB0.out.cell 4 _ rfl⟩
    have cR := readerOfV s (wr.alloc (.cells #[.string xk, .int .i64 (xa : Int), .int .i64 (xz : Int), .int .i64 (xf : Int), .int .i64 (xl : Int)] 116)).drew
    go_wp2_with fail
    refine wp_region_until (fun w' => w'.cell? ⟨wr.heap.size, 0, none⟩ = some (.string xk) ∧ w'.cell? ⟨wr.heap.size, 1, none⟩ = some (.int .i64 (xa : Int)) ∧ w'.cell? ⟨wr.heap.size, 2, none⟩ = some (.int .i64 (xz : Int)) ∧ w'.cell? ⟨wr.heap.size, 3, none⟩ = some (.int .i64 (xf : Int)) ∧ w'.cell? ⟨wr.heap.size, 4, none⟩ = some (.int .i64 (xl : Int))) (fun _ => false) 6 (by rfl) (by kernel_rfl) ?_
    refine until_take 0 (v := ?_) (by rfl) (by kernel_rfl) (by exact fun _ _ _ h => h) (by rfl) ?_ S0.out ?_
    rotate_left
    ·intro w hSw
     try dsimp only at hSw
     go_simp
     try with_reducible rfl
    try simp only [Act.put, setIfInBounds_toArray, set_cons_zero, set_cons_succ]
    refine until_take 2 (v := ?_) (by rfl) (by kernel_rfl) (by exact fun _ _ _ h => h) (by rfl) ?_ S0.out ?_
    rotate_left
    ·intro w hSw
     try dsimp only at hSw
     go_simp
     try with_reducible rfl
    try simp only [Act.put, setIfInBounds_toArray, set_cons_zero, set_cons_succ]
    refine until_one 1 (by rfl) (by kernel_rfl) (fun K hK => ?_)
    go_simp
    refine cR.mono ?_
    rintro e Y1 ⟨rfl, hY1⟩
    have C1 : Hid (CurB Y1 (wr.alloc (.cells #[.string xk, .int .i64 (xa : Int), .int .i64 (xz : Int), .int .i64 (xf : Int), .int .i64 (xl : Int)] 116)).drew.heap.size s 0 154) := by rw [hY1]; exact Blk.new _ _ _
    have KB1 : Hid (Blk Y1 wr.heap.size #[.string xk, .int .i64 (xa : Int), .int .i64 (xz : Int), .int .i64 (xf : Int), .int .i64 (xl : Int)] 116) := by rw [hY1]; exact KB0.out.alloc _
    have BB1 : Hid (Below w.heap.size w Y1) := by rw [hY1]; exact BB0.out.alloc BB0.out.size _
    have GG : Hid (w.heap.size ≤ (wr.alloc (.cells #[.string xk, .int .i64 (xa : Int), .int .i64 (xz : Int), .int .i64 (xf : Int), .int .i64 (xl : Int)] 116)).drew.heap.size ∧ wr.heap.size ≠ (wr.alloc (.cells #[.string xk, .int .i64 (xa : Int), .int .i64 (xz : Int), .int .i64 (xf : Int), .int .i64 (xl : Int)] 116)).drew.heap.size) := ⟨BB0.out.size, by have := KB0.out.lt; omega⟩
    generalize (wr.alloc (.cells #[.string xk, .int .i64 (xa : Int), .int .i64 (xz : Int), .int .i64 (xf : Int), .int .i64 (xl : Int)] 116)).drew.heap.size = gr at *
    clear hY1 cR BB0 KB0
    go_wp2_with fail
    refine hK.out _ _ (fun _ _ => ⟨KB1.out.cell 0 _ rfl, KB1.out.cell 1 _ rfl, KB1.out.cell 2 _ rfl, KB1.out.cell 3 _ rfl, KB1.out.cell 4 _ rfl⟩) ?_
    clear hK K
    try simp only [Act.put, setIfInBounds_toArray, set_cons_zero, set_cons_succ]
    refine until_one 3 (by rfl) (by kernel_rfl) (fun K hK => ?_)
    go_simp
    refine (readBlockV s 0 gr ⟨xk, xa, xz, xf, xl⟩ Y1 w C1.out HS.out HFit.out BB1.out GG.out.1 ST.out a0 a1 a2 ER.out).mono ?_
    rintro e Y2 ⟨⟨v2, rfl, hO2⟩, _, hk2⟩
    rw [HBk.out.1] at hO2
    have KB2 : Hid (Blk Y2 wr.heap.size #[.string xk, .int .i64 (xa : Int), .int .i64 (xz : Int), .int .i64 (xf : Int), .int .i64 (xl : Int)] 116) := hk2.blk KB1.out GG.out.2
    have BB2 : Hid (Below w.heap.size w Y2) := BB1.out.trans (hk2.1.mono GG.out.1)
    have O2 : Hid (Owns Y2 w.heap.size 56 2 v2 (ptR (sAt m k).pts)) := hO2.mono BB1.out.size
    clear hk2 hO2
    go_wp2_with fail
    refine hK.out _ _ (fun _ _ => ⟨KB2.out.cell 0 _ rfl, KB2.out.cell 1 _ rfl, KB2.out.cell 2 _ rfl, KB2.out.cell 3 _ rfl, KB2.out.cell 4 _ rfl⟩) ?_
    clear hK K
    try simp only [Act.put, setIfInBounds_toArray, set_cons_zero, set_cons_succ]
    refine until_pure 4 (v := ?_) (by rfl) (by kernel_rfl) (by exact fun _ _ _ h => h) (by rfl) ?_ ?_
    rotate_left
    ·intro w
     go_simp
     try with_reducible rfl
    try simp only [Act.put, setIfInBounds_toArray, set_cons_zero, set_cons_succ]
    refine until_pure 5 (v := ?_) (by rfl) (by kernel_rfl) (by exact fun _ _ _ h => h) (by rfl) ?_ ?_
    rotate_left
    ·intro w
     go_simp
     try with_reducible rfl
    try simp only [Act.put, setIfInBounds_toArray, set_cons_zero, set_cons_succ]
    refine until_done (by kernel_rfl) ?_ _
    go_wp2_with fail
    refine bodyPost_ret (results_tmp2 rfl _ _ _) rfl ?_
    exact ⟨⟨_, _, true, rfl, HF.out, O2.out⟩, BB2.out⟩
   ·have HKn : Hid (xk ≠ key) := hkey
    have hne := bytes_ne hkey
    clear hkey
    go_wp2_with fail
    go_roundw
    case rel =>
     refine ⟨k + 1, by omega, by go_num, fun i hi => ?_, HBa.out _⟩
     by_cases e : i = k
     ·rw [e, HXk.out]; exact HKn.out
     ·exact HJ.out i (by omega)
    case measure => simp [intOf]; omega
  ·obtain rfl : k = n := by omega
   have BW : Hid (Below w.heap.size w wr) := B1.out.trans (HB.out.mono B1.out.size)
   have HF : Hid (FfAns s key [] false) := by
    refine .inr ⟨rfl, rfl, fun m hm j hj => ?_⟩
    have hPm := HNm.out m hm
    have hln : m.length = k := by rw [← HN.out, hPm, List.length_map, List.length_range]
    have h1 := HJ.out j (by omega)
    rw [hPm, range_get m m.length j hj] at h1
    exact h1
   go_wp2_with fail
   refine bodyPost_ret (results_tmp2 rfl _ _ _) rfl ?_
   exact ⟨⟨_, [], false, rfl, HF.out, Owns.nil _ _ _ _⟩, BW.out⟩
theorem FfAns.pts {s key : ByteArray} {l : List Pnt} {ok : Bool} {m : List Ser} (h : FfAns s key l ok) (hm : GoodF s m) : l = ptsAt m key := by
 rcases h with ⟨_, m', j, h2, h3, h4, h5, h6⟩ | ⟨_, h2, h3⟩
 ·obtain rfl := hm.one h2
  rw [h6]
  exact (ptsAt_at h3 h4 h5).symm
 ·rw [h2, ptsAt_none]
  intro x hx e
  obtain ⟨j, hj, rfl⟩ := List.getElem_of_mem hx
  rw [getD_at m j hj] at e
  exact h3 m hm j hj e
def idxF (m : List Ser) : List Spot := (List.range m.length).map (spotOf m)
theorem idxF_keys (m : List Ser) : (idxF m).map Spot.key = m.map Ser.key := by
 unfold idxF
 rw [List.map_map]
 conv => rhs; rw [← range_at m]
 rw [List.map_map]
 rfl
theorem idxF_length (m : List Ser) : (idxF m).length = m.length := by simp [idxF]
set_option maxHeartbeats 2000000 in
theorem filedPoints (s key : ByteArray) (m : List Ser) (u : Value) (w : World) (B : Nat) (hm : GoodF s m) (hO : Lies w B 5 u (spR (idxF m))) (hB : B ≤ w.heap.size) (hs : s.size ≤ 1048576) (hst : SumTab w) (a0 a1 a2 : Addr) (he : Errs w a0 a1 a2) :
  Calls Tryz.prog 203 #[.agg #[.string s, u], .string key] w fun e w' => (∃ v, e = .returned v ∧ Owns w' w.heap.size 56 2 v (ptR (ptsAt m key))) ∧ Below w.heap.size w w' := by
 have HM : Hid (GoodF s m) := hm
 obtain ⟨A, c, rfl, _⟩ := sp_look hO
 rw [idxF_length] at hO ⊢
 generalize m.length = n at *
 obtain ⟨X0, hX0⟩ : ∃ X0, X0 = w.alloc (.cells #[.string s, .slice A n c] 105) := ⟨_, rfl⟩
 have BX : Hid (Below w.heap.size w X0) := by unfold Hid; rw [hX0]; exact (Below.refl _ w).alloc (Nat.le_refl _) _
 have c1 := findBlockV s key (idxF m) (.slice A n c) X0 B (.inl ⟨m, hm, rfl⟩) (hO.on (BX.out.mono hB)) (Nat.le_trans hB BX.out.size) hs (hst.on BX.out) a0 a1 a2 (he.on BX.out)
 clear hm hO hB hs hst he
 go_enter Tryz.func203, Tryz.ntmps203
 go_wp2_with fail
 rw [← hX0]
 clear hX0
 refine c1.mono ?_
 rintro e X1 ⟨⟨v, l, ok, rfl, hF, hO1⟩, hb1⟩
 have HF : Hid (l = ptsAt m key) := hF.pts HM.out
 have O1 : Hid (Owns X1 w.heap.size 56 2 v (ptR (ptsAt m key))) := by unfold Hid; rw [← HF.out]; exact hO1.mono BX.out.size
 have B1 : Hid (Below w.heap.size w X1) := BX.out.trans (hb1.mono BX.out.size)
 clear hF hO1 hb1 c1 HF
 go_wp2_with fail
 go_ret
 exact ⟨⟨_, rfl, O1.out⟩, B1.out⟩
theorem sp_cells {w : World} {B n c : Nat} {A : Option Addr} {l : List Spot} (h : Lies w B 5 (.slice A n c) (spR l)) : ∀ j, j < l.length → ∃ g off, A = some ⟨g, off, none⟩ ∧ g < B ∧
  w.cell? ⟨g, off + j * 5, none⟩ = some (.string (l.getD j default).key) ∧ w.cell? ⟨g, off + j * 5 + 1, none⟩ = some (.int .i64 ((l.getD j default).at' : Int)) ∧ w.cell? ⟨g, off + j * 5 + 2, none⟩ = some (.int .i64 ((l.getD j default).size : Int)) ∧
  w.cell? ⟨g, off + j * 5 + 3, none⟩ = some (.int .i64 ((l.getD j default).first : Int)) ∧ w.cell? ⟨g, off + j * 5 + 4, none⟩ = some (.int .i64 ((l.getD j default).last : Int)) := by
 obtain ⟨A', c', e, hl⟩ := sp_look h
 cases e
 exact hl
set_option maxHeartbeats 2000000 in
theorem filedKeys (s : ByteArray) (l : List Spot) (u : Value) (w : World) (B : Nat) (hO : Lies w B 5 u (spR l)) (hn : l.length ≤ 1000) (hB : B ≤ w.heap.size) :
  Calls Tryz.prog 202 #[.agg #[.string s, u]] w fun e w' => (∃ v, e = .returned v ∧ Owns w' w.heap.size 9 1 v (stR (l.map Spot.key))) ∧ Below w.heap.size w w' := by
 obtain ⟨A, cap, rfl, _⟩ := sp_look hO
 have HL : Hid (∀ wx, Below w.heap.size w wx → ∀ j, j < l.length → ∃ g off, A = some ⟨g, off, none⟩ ∧ g < B ∧
  wx.cell? ⟨g, off + j * 5, none⟩ = some (.string (l.getD j default).key) ∧ wx.cell? ⟨g, off + j * 5 + 1, none⟩ = some (.int .i64 ((l.getD j default).at' : Int)) ∧ wx.cell? ⟨g, off + j * 5 + 2, none⟩ = some (.int .i64 ((l.getD j default).size : Int)) ∧
  wx.cell? ⟨g, off + j * 5 + 3, none⟩ = some (.int .i64 ((l.getD j default).first : Int)) ∧ wx.cell? ⟨g, off + j * 5 + 4, none⟩ = some (.int .i64 ((l.getD j default).last : Int))) := fun wx hx => sp_cells (hO.on (hx.mono hB))
 have HT : Hid (∀ k, k < l.length → (l.take (k + 1)).map Spot.key = (l.take k).map Spot.key ++ [(l.getD k default).key]) := fun k hk => by rw [take_getD l k hk, List.map_append]; rfl
 have HA : Hid (∀ k, k = l.length → (l.take k).map Spot.key = l.map Spot.key) := fun k hk => by rw [hk, List.take_length]
 have q1 : (l.length : Int) ≤ 1000 := by omega
 have HLn : Hid (∀ k, k ≤ l.length → (stR ((l.take k).map Spot.key)).length ≤ 2097152) := fun k hk => by rw [stR_length, List.length_map, List.length_take]; omega
 clear hO hB
 generalize hN : l.length = n at *
 clear hN
 obtain ⟨X0, hX0⟩ : ∃ X0, X0 = w.alloc (.cells #[.string s, .slice A n cap] 105) := ⟨_, rfl⟩
 have BX : Hid (Below w.heap.size w X0) := by unfold Hid; rw [hX0]; exact (Below.refl _ w).alloc (Nat.le_refl _) _
 go_enter Tryz.func202, Tryz.ntmps202
 go_wp2_with fail
 rw [← hX0]
 clear hX0
 go_loopw [3, 9] (fun v3 v9 wr => ∃ k : Nat, k ≤ n ∧ v9 = .int .i64 (k : Int) ∧ Owns wr w.heap.size 9 1 v3 (stR ((l.take k).map Spot.key)) ∧ Below w.heap.size w wr) (fun _ i _ => n - (intOf i).toNat)
 case atStart => exact ⟨0, by omega, rfl, Owns.nil _ _ _ _, BX.out⟩
 case round =>
  obtain ⟨k, hk, rfl, hO, hb⟩ := hrel
  have HO : Hid (Owns wr w.heap.size 9 1 u3 (stR ((l.take k).map Spot.key))) := hO
  have HBr : Hid (Below w.heap.size w wr) := hb
  obtain ⟨A3, n3, c3, rfl⟩ := hO.shape
  clear hO hb
  by_cases hlt : k < n
  ·have q4 : (k : Int) < (n : Int) := by omega
   obtain ⟨g, off, rfl, hg, e0, e1, e2, e3, e4⟩ := HL.out wr HBr.out k hlt
   have HE : Hid ((l.take (k + 1)).map Spot.key = (l.take k).map Spot.key ++ [(l.getD k default).key]) := HT.out k hlt
   have L2 := HLn.out k hk
   generalize (l.take k).map Spot.key = o at *
   generalize l.getD k default = x at *
   obtain ⟨xk, xa, xz, xf, xl⟩ := x
   simp only at e0 e1 e2 e3 e4 HE
   obtain ⟨W1, hW1⟩ : ∃ W1, W1 = wr.alloc (.cells #[.string xk, .int .i64 (xa : Int), .int .i64 (xz : Int), .int .i64 (xf : Int), .int .i64 (xl : Int)] 116) := ⟨_, rfl⟩
   have HO2 : Hid (Owns (wr.alloc (.cells #[.string xk, .int .i64 (xa : Int), .int .i64 (xz : Int), .int .i64 (xf : Int), .int .i64 (xl : Int)] 116)) w.heap.size 9 1 (.slice A3 n3 c3) (stR o)) := HO.out.alloc _
   have BA : Hid (Below w.heap.size w (wr.alloc (.cells #[.string xk, .int .i64 (xa : Int), .int .i64 (xz : Int), .int .i64 (xf : Int), .int .i64 (xl : Int)] 116))) := HBr.out.alloc HBr.out.size _
   have Z : w.heap.size ≤ (wr.alloc (.cells #[.string xk, .int .i64 (xa : Int), .int .i64 (xz : Int), .int .i64 (xf : Int), .int .i64 (xl : Int)] 116)).heap.size := BA.out.size
   have LL : Hid ((stR o).length ≤ 2097152) := L2
   clear L2 hW1 W1
   go_wp2_with (at_builtin; refine Shut.out ?_)
   unfold Shut
   refine wpList_append_row (w := wr.alloc (.cells #[.string xk, .int .i64 (xa : Int), .int .i64 (xz : Int), .int .i64 (xf : Int), .int .i64 (xl : Int)] 116)) rfl (.tmp 13) (.tmp 16) 23 9 (.string ⟨#[]⟩) 1 16 rfl Tryz.underlying23 infoStr rfl (by omega) w.heap.size (.slice A3 n3 c3) (stR o) rfl HO2.out [.string xk] rfl (st_cell xk) (by rw [World.size_alloc]; rfl) LL.out (by omega) Z ?_
   intro v' w2 hO2 hb2 hk2 hw2
   obtain ⟨A2, n2, c2, rfl⟩ := hO2.shape
   have O2 : Hid (Owns w2 w.heap.size 9 1 (.slice A2 n2 c2) (stR (o ++ [xk]))) := by unfold Hid; rw [stR_append]; exact hO2
   have B2 : Hid (Below w.heap.size w w2) := BA.out.trans hb2
   clear hO2 hb2 hk2 hw2
   go_wp2_with fail
   go_roundw
   case rel => exact ⟨k + 1, by omega, by go_num, by rw [HE.out]; exact O2.out, B2.out⟩
   case measure => simp [intOf]; omega
  ·obtain rfl : k = n := by omega
   have HE : Hid ((l.take k).map Spot.key = l.map Spot.key) := HA.out k rfl
   go_wp2_with fail
   go_ret
   refine ⟨⟨_, rfl, ?_⟩, HBr.out⟩
   rw [← HE.out]
   exact HO.out
end Go.Proofs.YtpmgndgkmffcnaaGreatDoor
namespace Go.Proofs
open Go.Shelf
def Tryz.sortN_ren : Go.Shelf.Ren := ⟨fun | 6 => 99 | 8 => 120 | 9 => 119 | 19 => 146 | 20 => 147 | 21 => 137 | 22 => 138 | 23 => 139 | 24 => 140 | 25 => 141 | 26 => 142 | 27 => 143 | 28 => 144 | 29 => 145 | 36 => 162 | 31 => 163 | 32 => 164 | 37 => 165 | 38 => 166 | 39 => 167 | 41 => 175 | n => n, fun | 27 => 23 | 29 => 9 | 3 => 3 | 32 => 148 | 26 => 23 | 0 => 0 | 44 => 142 | 46 => 171 | 4 => 4 | 36 => 163 | 35 => 162 | 41 => 126 | 5 => 5 | 9 => 9 | 53 => 184 | 57 => 188 | 63 => 192 | 64 => 128 | n => n, fun | n => n⟩
theorem Tryz.sortN : Go.Proofs.SlLaysM.n6 Tryz.prog Tryz.sortN_ren := {
 mixed := by kernel_rfl
 f6 := ⟨Tryz.f99.name, by decide, Tryz.func99.trans (congrArg some (by kernel_rfl))⟩
 f8 := Tryz.func120.trans (congrArg some (by kernel_rfl))
 f9 := ⟨Tryz.f119.name, by decide, Tryz.func119.trans (congrArg some (by kernel_rfl))⟩
 f19 := Tryz.func146.trans (congrArg some (by kernel_rfl))
 f20 := Tryz.func147.trans (congrArg some (by kernel_rfl))
 f21 := ⟨Tryz.f137.name, by decide, Tryz.func137.trans (congrArg some (by kernel_rfl))⟩
 f22 := ⟨Tryz.f138.name, by decide, Tryz.func138.trans (congrArg some (by kernel_rfl))⟩
 f23 := ⟨Tryz.f139.name, by decide, Tryz.func139.trans (congrArg some (by kernel_rfl))⟩
 f24 := ⟨Tryz.f140.name, by decide, Tryz.func140.trans (congrArg some (by kernel_rfl))⟩
 f25 := ⟨Tryz.f141.name, by decide, Tryz.func141.trans (congrArg some (by kernel_rfl))⟩
 f26 := ⟨Tryz.f142.name, by decide, Tryz.func142.trans (congrArg some (by kernel_rfl))⟩
 f27 := ⟨Tryz.f143.name, by decide, Tryz.func143.trans (congrArg some (by kernel_rfl))⟩
 f28 := ⟨Tryz.f144.name, by decide, Tryz.func144.trans (congrArg some (by kernel_rfl))⟩
 f29 := ⟨Tryz.f145.name, by decide, Tryz.func145.trans (congrArg some (by kernel_rfl))⟩
 f31 := Tryz.func163.trans (congrArg some (by kernel_rfl))
 f32 := Tryz.func164.trans (congrArg some (by kernel_rfl))
 f36 := ⟨Tryz.f162.name, by decide, Tryz.func162.trans (congrArg some (by kernel_rfl))⟩
 f37 := ⟨Tryz.f165.name, by decide, Tryz.func165.trans (congrArg some (by kernel_rfl))⟩
 f38 := ⟨Tryz.f166.name, by decide, Tryz.func166.trans (congrArg some (by kernel_rfl))⟩
 f39 := ⟨Tryz.f167.name, by decide, Tryz.func167.trans (congrArg some (by kernel_rfl))⟩
 f41 := ⟨Tryz.f175.name, by decide, Tryz.func175.trans (congrArg some (by kernel_rfl))⟩
 t0 := Tryz.underlying0
 a0 := Tryz.isAgg0
 z0 := Tryz.sizeOf0
 v0 := Tryz.zeroValue0
 t3 := Tryz.underlying3
 a3 := Tryz.isAgg3
 z3 := Tryz.sizeOf3
 v3 := Tryz.zeroValue3
 t4 := Tryz.underlying4
 a4 := Tryz.isAgg4
 z4 := Tryz.sizeOf4
 v4 := Tryz.zeroValue4
 t5 := Tryz.underlying5
 a5 := Tryz.isAgg5
 z5 := Tryz.sizeOf5
 v5 := Tryz.zeroValue5
 t9 := Tryz.underlying9
 a9 := Tryz.isAgg9
 z9 := Tryz.sizeOf9
 v9 := Tryz.zeroValue9
 t26 := Tryz.underlying23
 a26 := Tryz.isAgg23
 z26 := Tryz.sizeOf23
 v26 := Tryz.zeroValue23
 t27 := Tryz.underlying23
 a27 := Tryz.isAgg23
 z27 := Tryz.sizeOf23
 v27 := Tryz.zeroValue23
 t29 := Tryz.underlying9
 a29 := Tryz.isAgg9
 z29 := Tryz.sizeOf9
 v29 := Tryz.zeroValue9
 t32 := Tryz.underlying148
 a32 := Tryz.isAgg148
 z32 := Tryz.sizeOf148
 v32 := Tryz.zeroValue148
 t35 := Tryz.underlying162
 a35 := Tryz.isAgg162
 z35 := Tryz.sizeOf162
 v35 := Tryz.zeroValue162
 t36 := Tryz.underlying163
 a36 := Tryz.isAgg163
 z36 := Tryz.sizeOf163
 v36 := Tryz.zeroValue163
 t41 := Tryz.underlying126
 a41 := Tryz.isAgg126
 z41 := Tryz.sizeOf126
 v41 := Tryz.zeroValue126
 t44 := Tryz.underlying142
 a44 := Tryz.isAgg142
 z44 := Tryz.sizeOf142
 v44 := Tryz.zeroValue142
 t46 := Tryz.underlying171
 a46 := Tryz.isAgg171
 z46 := Tryz.sizeOf171
 v46 := Tryz.zeroValue171
 t53 := Tryz.underlying184
 a53 := Tryz.isAgg184
 z53 := Tryz.sizeOf184
 v53 := Tryz.zeroValue184
 t57 := Tryz.underlying188
 a57 := Tryz.isAgg188
 z57 := Tryz.sizeOf188
 v57 := Tryz.zeroValue188
 t63 := Tryz.underlying192
 a63 := Tryz.isAgg192
 z63 := Tryz.sizeOf192
 v63 := Tryz.zeroValue192
 t64 := Tryz.underlying128
 a64 := Tryz.isAgg128
 z64 := Tryz.sizeOf128
 v64 := Tryz.zeroValue128 }
def Tryz.compactN_ren : Go.Shelf.Ren := ⟨fun | 44 => 100 | n => n, fun | 25 => 23 | 26 => 9 | 3 => 3 | 4 => 4 | 0 => 0 | n => n, fun | n => n⟩
theorem Tryz.compactN : Go.Proofs.SlLaysN.n44 Tryz.prog Tryz.compactN_ren := {
 mixed := by kernel_rfl
 f44 := ⟨Tryz.f100.name, by decide, Tryz.func100.trans (congrArg some (by kernel_rfl))⟩
 t0 := Tryz.underlying0
 a0 := Tryz.isAgg0
 z0 := Tryz.sizeOf0
 v0 := Tryz.zeroValue0
 t3 := Tryz.underlying3
 a3 := Tryz.isAgg3
 z3 := Tryz.sizeOf3
 v3 := Tryz.zeroValue3
 t4 := Tryz.underlying4
 a4 := Tryz.isAgg4
 z4 := Tryz.sizeOf4
 v4 := Tryz.zeroValue4
 t25 := Tryz.underlying23
 a25 := Tryz.isAgg23
 z25 := Tryz.sizeOf23
 v25 := Tryz.zeroValue23
 t26 := Tryz.underlying9
 a26 := Tryz.isAgg9
 z26 := Tryz.sizeOf9
 v26 := Tryz.zeroValue9
 i26 := by kernel_rfl }
def Tryz.cloneP_ren : Go.Shelf.Ren := ⟨fun | 41 => 79 | n => n, fun | 22 => 34 | 23 => 56 | 4 => 4 | n => n, fun | n => n⟩
theorem Tryz.cloneP : Go.Proofs.SlLaysE0.n41 Tryz.prog Tryz.cloneP_ren := {
 mixed := by kernel_rfl
 f41 := ⟨Tryz.f79.name, by decide, Tryz.func79.trans (congrArg some (by kernel_rfl))⟩
 t4 := Tryz.underlying4
 a4 := Tryz.isAgg4
 z4 := Tryz.sizeOf4
 v4 := Tryz.zeroValue4
 t22 := Tryz.underlying34
 a22 := Tryz.isAgg34
 z22 := Tryz.sizeOf34
 v22 := Tryz.zeroValue34 }
end Go.Proofs
