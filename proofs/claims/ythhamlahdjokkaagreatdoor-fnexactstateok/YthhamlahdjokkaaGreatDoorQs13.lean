/- FlFindM FlIxO EgI2 EgShelf EgI3 EgI4 -/
import Derived.Test.YthhamlahdjokkaaGreatDoorQs4
import Derived.WalkKit
import Derived.ProofKit
import Derived.OpenShut
import Derived.Below
import Derived.WalkSmall
import Derived.BigQuiet
import Derived.Deep.QuietTactic
import Derived.Deep.RegionWith
import Derived.Handy
import Derived.Test.YthhamlahdjokkaaGreatDoorQs8
import Derived.Test.YthhamlahdjokkaaGreatDoorQs12
import Derived.Test.YthhamlahdjokkaaGreatDoorQs1
import Derived.Shelf.SlGeneric
import Derived.Ground.SlgmProg
import Derived.Ground.SlgnProg
import Derived.Shelf.SlicesE.Clone
import Derived.Shelf.SlicesG.CompactS
import Derived.Shelf.SortM.Plain
import Derived.Shelf.SortM.SortNone
import Derived.Test.YthhamlahdjokkaaGreatDoorProg
import Derived.Lib.OwnBridge
import Derived.Sort.OwnSorted
import Derived.Sort.Grow
open List (setIfInBounds_toArray set_cons_zero set_cons_succ)
namespace Go.Proofs.YthhamlahdjokkaaGreatDoor
open Go.ChangeShapes Go.WideShapes Go.ChangeAt Go.RowKit Go.PlainAid
set_option linter.unusedVariables false
def FfAns (s key : ByteArray) (l : List Pnt) (ok : Bool) : Prop := (ok = true ∧ ∃ m j, GoodF s m ∧ j < m.length ∧ (sAt m j).key = key ∧ (∀ i, i < j → (sAt m i).key ≠ key) ∧ l = (sAt m j).pts) ∨ (ok = false ∧ l = [] ∧ ∀ m, GoodF s m → ∀ j, j < m.length → (sAt m j).key ≠ key)
theorem FfAns.one {s key : ByteArray} {l l' : List Pnt} {x y : Bool} (h : FfAns s key l x) (h' : FfAns s key l' y) : l = l' ∧ x = y := by
 rcases h with ⟨h1, m, j, h2, h3, h4, h5, h6⟩ | ⟨h1, h2, h3⟩ <;> rcases h' with ⟨h1', m', j', h2', h3', h4', h5', h6'⟩ | ⟨h1', h2', h3'⟩
 ·obtain rfl := h2.one h2'
  obtain rfl : j = j' := by
   rcases Nat.lt_trichotomy j j' with e | e | e
   ·exact absurd h4 (h5' j e)
   ·exact e
   ·exact absurd h4' (h5 j' e)
  exact ⟨h6.trans h6'.symm, h1.trans h1'.symm⟩
 ·exact absurd h4 (h3' m h2 j h3)
 ·exact absurd h4' (h3 m' h2' j' h3')
 ·exact ⟨h2.trans h2'.symm, h1.trans h1'.symm⟩
theorem FfAns.len {s key : ByteArray} {l : List Pnt} {x : Bool} (h : FfAns s key l x) : l.length ≤ 60 := by
 rcases h with ⟨_, m, j, h2, h3, _, _, h6⟩ | ⟨_, h2, _⟩
 ·rw [h6]
  exact (h2.2.1.2 j h3).2.2.1
 ·rw [h2]
  simp
def FfOk (s key : ByteArray) (w' : World) (b : Nat) (e : Ending) : Prop := ∃ v l ok, e = .returned (.tuple #[v, .bool ok]) ∧ FfAns s key l ok ∧ Owns w' b 98 2 v (ptR l)
end Go.Proofs.YthhamlahdjokkaaGreatDoor
namespace Go.Proofs.YthhamlahdjokkaaGreatDoor
open Go.ChangeShapes Go.WideShapes Go.ChangeAt Go.RowKit Go.PlainAid
set_option linter.unusedVariables false
def IxI (s : ByteArray) (P : List Spot) : Prop := (∃ m, GoodF s m ∧ P = (List.range m.length).map (spotOf m)) ∨ ((∀ m, ¬ GoodF s m) ∧ P = [])
set_option maxHeartbeats 2000000 in
theorem indexOfV (s : ByteArray) (w : World) (hs : s.size ≤ 1048576) (hst : SumTab w) (a0 a1 a2 : Addr) (he : Errs w a0 a1 a2) : Calls Tryz.prog 150 #[.string s] w fun e w' => (∃ v P, e = .returned v ∧ IxI s P ∧ Owns w' w.heap.size 127 5 v (spR P)) ∧ Below w.heap.size w w' := by
 have HS : Hid (s.size ≤ 1048576) := hs
 have c1 := implReadFile s w hs hst a0 a1 a2 he
 clear hs hst he
 go_enter Tryz.func150, Tryz.ntmps150
 go_wp2_with fail
 refine c1.mono ?_
 rintro e X1 ⟨⟨u1, L1, ok1, hR, rfl, _⟩, hb⟩
 have HR : Hid (RfAns s (L1.map Prod.fst) ok1) := hR
 have B1 : Hid (Below w.heap.size w X1) := hb
 clear hR hb c1
 cases ok1 with
 | false =>
  have HN : Hid (IxI s []) := by
   rcases HR.out with ⟨h, _⟩ | ⟨_, _, h⟩
   ·cases h
   ·exact .inr ⟨h, rfl⟩
  go_wp2_with fail
  go_ret
  exact ⟨⟨_, [], rfl, HN.out, Owns.nil _ _ _ _⟩, B1.out⟩
 | true =>
 have HY : Hid (IxI s (spots s)) := by
  rcases HR.out with ⟨_, h⟩ | ⟨h, _⟩
  ·exact .inl ⟨_, h, h.read.2⟩
  ·cases h
 have C0 : Hid (CurB (X1.alloc (.cells #[.string s, .int .i64 0] 231)) X1.heap.size s 0 231) := Blk.new X1 _ _
 have B0 : Hid (Below w.heap.size w (X1.alloc (.cells #[.string s, .int .i64 0] 231))) := B1.out.alloc B1.out.size _
 go_wp2_with fail
 refine (readerOfV s X1).mono ?_
 rintro e W1 ⟨rfl, hW1⟩
 rw [← hW1] at C0 B0
 clear hW1
 go_wp2_with fail
 refine (readIndexV s 0 X1.heap.size W1 C0.out HS.out).mono ?_
 rintro e X2 ⟨⟨u2, rfl, hO⟩, _, hk⟩
 have B2 : Hid (Below w.heap.size w X2) := B0.out.trans (hk.1.mono B1.out.size)
 have O2 : Hid (Owns X2 w.heap.size 127 5 u2 (spR (spots s))) := hO.mono B0.out.size
 clear hO hk
 go_wp2_with fail
 go_ret
 exact ⟨⟨_, _, rfl, HY.out, O2.out⟩, B2.out⟩
end Go.Proofs.YthhamlahdjokkaaGreatDoor
namespace Go.Proofs.YthhamlahdjokkaaGreatDoor
open Go.ChangeShapes Go.WideShapes Go.ChangeAt Go.RowKit Go.PlainAid
set_option linter.unusedVariables false
set_option maxHeartbeats 4000000 in
theorem findBlockV (s key : ByteArray) (P : List Spot) (v : Value) (w : World) (BB : Nat) (hI : IxI s P) (hO : Lies w BB 5 v (spR P)) (hBB : BB ≤ w.heap.size) (hs : s.size ≤ 1048576) (hst : SumTab w) (a0 a1 a2 : Addr) (he : Errs w a0 a1 a2) : Calls Tryz.prog 259 #[.string s, v, .string key] w fun e w' => FfOk s key w' w.heap.size e ∧ Below w.heap.size w w' := by
 have HS : Hid (s.size ≤ 1048576) := hs
 have ST : Hid (SumTab w) := hst
 have ER : Hid (Errs w a0 a1 a2) := he
 clear hs hst he
 obtain ⟨X1, hX1⟩ : ∃ X1, X1 = w := ⟨_, rfl⟩
 rw [← hX1] at hO
 have HX1 : Hid (X1 = w) := hX1
 have B1 : Hid (Below w.heap.size w X1) := by unfold Hid; rw [hX1]; exact Below.refl _ _
 obtain ⟨A, c, rfl, hl⟩ := sp_look (hO.mono (show BB ≤ X1.heap.size by rw [hX1]; exact hBB))
 clear hX1
 have HIx : Hid (IxI s P) := hI
 have HNm : Hid (∀ m, GoodF s m → P = (List.range m.length).map (spotOf m)) := fun m hm => by
  rcases hI with ⟨m', h1, h2⟩ | ⟨h1, _⟩
  ·obtain rfl := hm.one h1
   exact h2
  ·exact absurd hm (h1 m)
 have HSo : Hid (1 ≤ P.length → ∃ m, GoodF s m) := fun h => by
  rcases hI with ⟨m', h1, h2⟩ | ⟨_, h2⟩
  ·exact ⟨m', h1⟩
  ·rw [h2] at h
   simp at h
 have HN5 : Hid (P.length ≤ 5) := by
  unfold Hid
  rcases hI with ⟨m', h1, h2⟩ | ⟨_, h2⟩
  ·rw [h2, List.length_map, List.length_range]
   exact h1.2.1.1
  ·rw [h2]
   simp
 have q1 : (P.length : Int) ≤ 5 := by have := HN5.out; omega
 have HL : Hid (∀ j, j < P.length → ∃ g off, A = some ⟨g, off, none⟩ ∧ g < X1.heap.size ∧
  X1.cell? ⟨g, off + j * 5, none⟩ = some (.string (P.getD j default).key) ∧ X1.cell? ⟨g, off + j * 5 + 1, none⟩ = some (.int .i64 ((P.getD j default).at' : Int)) ∧ X1.cell? ⟨g, off + j * 5 + 2, none⟩ = some (.int .i64 ((P.getD j default).size : Int)) ∧
  X1.cell? ⟨g, off + j * 5 + 3, none⟩ = some (.int .i64 ((P.getD j default).first : Int)) ∧ X1.cell? ⟨g, off + j * 5 + 4, none⟩ = some (.int .i64 ((P.getD j default).last : Int))) := hl
 clear hI hO hl hBB
 generalize hn : P.length = n at *
 have HN : Hid (P.length = n) := hn
 clear hn
 obtain rfl : w = X1 := HX1.out.symm
 go_enter Tryz.func259, Tryz.ntmps259
 go_wp2_with fail
 go_loopw [12] (fun v12 wr => ∃ k : Nat, k ≤ n ∧ v12 = .int .i64 (k : Int) ∧ Hid (∀ i, i < k → (P.getD i default).key ≠ key) ∧ Below w.heap.size w wr) (fun i _ => n - (intOf i).toNat)
 case atStart => exact ⟨0, by omega, rfl, fun i hi => by omega, Below.refl _ _⟩
 case round =>
  obtain ⟨k, hk, rfl, HJ, hb⟩ := hrel
  have HB : Hid (Below w.heap.size w wr) := hb
  clear hb
  by_cases hlt : k < n
  ·have q4 : (k : Int) < (n : Int) := by omega
   obtain ⟨g, off, rfl, hg, e0, e1, e2, e3, e4⟩ := HL.out k hlt
   rw [← HB.out.cell (p := ⟨_, _, none⟩) hg] at e0 e1 e2 e3 e4
   obtain ⟨m, hm⟩ := HSo.out (by omega)
   have hPm := HNm.out m hm
   have hln : m.length = n := by rw [← HN.out, hPm, List.length_map, List.length_range]
   have HAt : Hid (∀ i, i < n → P.getD i default = spotOf m i) := fun i hi => by rw [hPm]; exact range_get m m.length i (by rw [hln]; exact hi)
   have HMg : Hid (GoodF s m ∧ m.length = n) := ⟨hm, hln⟩
   have HX : Hid (P.getD k default = spotOf m k) := HAt.out k hlt
   have HFit : Hid ((P.getD k default).at' ≤ 562949953421311 ∧ (P.getD k default).size ≤ 562949953421311) := by
    unfold Hid
    rw [HX.out]
    have := nums_le hm.2.1 k (by omega)
    exact ⟨this.2.1, this.2.2.1⟩
   have HBk : Hid (rbP (blkA s (P.getD k default)) = (sAt m k).pts ∧ (P.getD k default).key = (sAt m k).key) := by
    unfold Hid
    rw [HX.out]
    refine ⟨?_, rfl⟩
    have := ser_read hm.2.1 k (by omega)
    rw [← hm.text] at this
    exact congrArg Ser.pts this
   have BW : Hid (Below w.heap.size w wr) := B1.out.trans (HB.out.mono B1.out.size)
   clear hPm hln hm HX
   generalize hx : P.getD k default = x at *
   have HXk : Hid (P.getD k default = x) := hx
   clear hx hg
   obtain ⟨xk, xa, xz, xf, xl⟩ := x
   simp only at e0 e1 e2 e3 e4 HFit HBk
   have HBa : Hid (∀ cs, Below w.heap.size w (wr.alloc (.cells cs 127))) := fun cs => HB.out.alloc HB.out.size _
   by_cases hkey : xk = key
   ·have HF : Hid (FfAns s key (sAt m k).pts true) := by
     refine .inl ⟨rfl, m, k, HMg.out.1, by rw [HMg.out.2]; exact hlt, by rw [← HBk.out.2]; exact hkey, fun i hi => ?_, rfl⟩
     have h1 := HJ.out i hi
     rw [HAt.out i (by omega)] at h1
     exact h1
    subst hkey
    have KB0 : Hid (Blk (wr.alloc (.cells #[.string xk, .int .i64 (xa : Int), .int .i64 (xz : Int), .int .i64 (xf : Int), .int .i64 (xl : Int)] 127)).drew wr.heap.size #[.string xk, .int .i64 (xa : Int), .int .i64 (xz : Int), .int .i64 (xf : Int), .int .i64 (xl : Int)] 127) := Blk.new wr _ _
    have BB0 : Hid (Below w.heap.size w (wr.alloc (.cells #[.string xk, .int .i64 (xa : Int), .int .i64 (xz : Int), .int .i64 (xf : Int), .int .i64 (xl : Int)] 127)).drew) := (BW.out.alloc BW.out.size _).drew
    have S0 : Hid ((wr.alloc (.cells #[.string xk, .int .i64 (xa : Int), .int .i64 (xz : Int), .int .i64 (xf : Int), .int .i64 (xl : Int)] 127)).drew.cell? ⟨wr.heap.size, 0, none⟩ = some (.string xk) ∧ (wr.alloc (.cells #[.string xk, .int .i64 (xa : Int), .int .i64 (xz : Int), .int .i64 (xf : Int), .int .i64 (xl : Int)] 127)).drew.cell? ⟨wr.heap.size, 1, none⟩ = some (.int .i64 (xa : Int)) ∧ (wr.alloc (.cells #[.string xk, .int .i64 (xa : Int), .int .i64 (xz : Int), .int .i64 (xf : Int), .int .i64 (xl : Int)] 127)).drew.cell? ⟨wr.heap.size, 2, none⟩ = some (.int .i64 (xz : Int)) ∧ (wr.alloc (.cells #[.string xk, .int .i64 (xa : Int), .int .i64 (xz : Int), .int .i64 (xf : Int), .int .i64 (xl : Int)] 127)).drew.cell? ⟨wr.heap.size, 3, none⟩ = some (.int .i64 (xf : Int)) ∧ (wr.alloc (.cells #[.string xk, .int .i64 (xa : Int), .int .i64 (xz : Int), .int .i64 (xf : Int), .int .i64 (xl : Int)] 127)).drew.cell? ⟨wr.heap.size, 4, none⟩ = some (.int .i64 (xl : Int))) := ⟨KB0.out.cell 0 _ rfl, KB0.out.cell 1 _ rfl, KB0.out.cell 2 _ rfl, KB0.out.cell 3 _ rfl, KB0.out.cell 4 _ rfl⟩
    have cR := readerOfV s (wr.alloc (.cells #[.string xk, .int .i64 (xa : Int), .int .i64 (xz : Int), .int .i64 (xf : Int), .int .i64 (xl : Int)] 127)).drew
    go_wp2_with fail
    refine wp_region_until (fun w' => w'.cell? ⟨wr.heap.size, 0, none⟩ = some (.string xk) ∧ w'.cell? ⟨wr.heap.size, 1, none⟩ = some (.int .i64 (xa : Int)) ∧ w'.cell? ⟨wr.heap.size, 2, none⟩ = some (.int .i64 (xz : Int)) ∧ w'.cell? ⟨wr.heap.size, 3, none⟩ = some (.int .i64 (xf : Int)) ∧ w'.cell? ⟨wr.heap.size, 4, none⟩ = some (.int .i64 (xl : Int))) (fun _ => false) 6 (by rfl) (by kernel_rfl) ?_
    refine tKf 0 S0.out ?_
    refine tKf 2 S0.out ?_
    refine uNe 1 (fun K hK => ?_)
    go_simp
    refine cR.mono ?_
    rintro e Y1 ⟨rfl, hY1⟩
    have C1 : Hid (CurB Y1 (wr.alloc (.cells #[.string xk, .int .i64 (xa : Int), .int .i64 (xz : Int), .int .i64 (xf : Int), .int .i64 (xl : Int)] 127)).drew.heap.size s 0 231) := by rw [hY1]; exact Blk.new _ _ _
    have KB1 : Hid (Blk Y1 wr.heap.size #[.string xk, .int .i64 (xa : Int), .int .i64 (xz : Int), .int .i64 (xf : Int), .int .i64 (xl : Int)] 127) := by rw [hY1]; exact KB0.out.alloc _
    have BB1 : Hid (Below w.heap.size w Y1) := by rw [hY1]; exact BB0.out.alloc BB0.out.size _
    have GG : Hid (w.heap.size ≤ (wr.alloc (.cells #[.string xk, .int .i64 (xa : Int), .int .i64 (xz : Int), .int .i64 (xf : Int), .int .i64 (xl : Int)] 127)).drew.heap.size ∧ wr.heap.size ≠ (wr.alloc (.cells #[.string xk, .int .i64 (xa : Int), .int .i64 (xz : Int), .int .i64 (xf : Int), .int .i64 (xl : Int)] 127)).drew.heap.size) := ⟨BB0.out.size, by have := KB0.out.lt; omega⟩
    generalize (wr.alloc (.cells #[.string xk, .int .i64 (xa : Int), .int .i64 (xz : Int), .int .i64 (xf : Int), .int .i64 (xl : Int)] 127)).drew.heap.size = gr at *
    clear hY1 cR BB0 KB0
    go_wp2_with fail
    refine hK.out _ _ (fun _ _ => ⟨KB1.out.cell 0 _ rfl, KB1.out.cell 1 _ rfl, KB1.out.cell 2 _ rfl, KB1.out.cell 3 _ rfl, KB1.out.cell 4 _ rfl⟩) ?_
    clear hK K
    try simp only [Act.put, zQ1, zQ2, zQ3]
    refine uNe 3 (fun K hK => ?_)
    go_simp
    refine (readBlockV s 0 gr ⟨xk, xa, xz, xf, xl⟩ Y1 w C1.out HS.out HFit.out BB1.out GG.out.1 ST.out a0 a1 a2 ER.out).mono ?_
    rintro e Y2 ⟨⟨v2, rfl, hO2⟩, _, hk2⟩
    rw [HBk.out.1] at hO2
    have KB2 : Hid (Blk Y2 wr.heap.size #[.string xk, .int .i64 (xa : Int), .int .i64 (xz : Int), .int .i64 (xf : Int), .int .i64 (xl : Int)] 127) := hk2.blk KB1.out GG.out.2
    have BB2 : Hid (Below w.heap.size w Y2) := BB1.out.trans (hk2.1.mono GG.out.1)
    have O2 : Hid (Owns Y2 w.heap.size 98 2 v2 (ptR (sAt m k).pts)) := hO2.mono BB1.out.size
    clear hk2 hO2
    go_wp2_with fail
    refine hK.out _ _ (fun _ _ => ⟨KB2.out.cell 0 _ rfl, KB2.out.cell 1 _ rfl, KB2.out.cell 2 _ rfl, KB2.out.cell 3 _ rfl, KB2.out.cell 4 _ rfl⟩) ?_
    clear hK K
    try simp only [Act.put, zQ1, zQ2, zQ3]
    refine pUf 4 ?_
    refine pUf 5 ?_
    refine until_done (by kernel_rfl) ?_ _
    go_wp2_with fail
    refine bodyPost_ret (results_tmp2 rfl _ _ _) rfl ?_
    exact ⟨⟨_, _, true, rfl, HF.out, O2.out⟩, BB2.out⟩
   ·have HKn : Hid (xk ≠ key) := hkey
    have hne := bytes_ne hkey
    clear hkey
    go_wp2_with fail
    go_roundw
    case rel =>
     refine ⟨k + 1, by omega, by go_num, fun i hi => ?_, HBa.out _⟩
     by_cases e : i = k
     ·rw [e, HXk.out]; exact HKn.out
     ·exact HJ.out i (by omega)
    case measure => simp [intOf]; omega
  ·obtain rfl : k = n := by omega
   have BW : Hid (Below w.heap.size w wr) := B1.out.trans (HB.out.mono B1.out.size)
   have HF : Hid (FfAns s key [] false) := by
    refine .inr ⟨rfl, rfl, fun m hm j hj => ?_⟩
    have hPm := HNm.out m hm
    have hln : m.length = k := by rw [← HN.out, hPm, List.length_map, List.length_range]
    have h1 := HJ.out j (by omega)
    rw [hPm, range_get m m.length j hj] at h1
    exact h1
   go_wp2_with fail
   refine bodyPost_ret (results_tmp2 rfl _ _ _) rfl ?_
   exact ⟨⟨_, [], false, rfl, HF.out, Owns.nil _ _ _ _⟩, BW.out⟩
theorem FfAns.pts {s key : ByteArray} {l : List Pnt} {ok : Bool} {m : List Ser} (h : FfAns s key l ok) (hm : GoodF s m) : l = ptsAt m key := by
 rcases h with ⟨_, m', j, h2, h3, h4, h5, h6⟩ | ⟨_, h2, h3⟩
 ·obtain rfl := hm.one h2
  rw [h6]
  exact (ptsAt_at h3 h4 h5).symm
 ·rw [h2, ptsAt_none]
  intro x hx e
  obtain ⟨j, hj, rfl⟩ := List.getElem_of_mem hx
  rw [getD_at m j hj] at e
  exact h3 m hm j hj e
def idxF (m : List Ser) : List Spot := (List.range m.length).map (spotOf m)
theorem idxF_keys (m : List Ser) : (idxF m).map Spot.key = m.map Ser.key := by
 unfold idxF
 rw [List.map_map]
 conv => rhs; rw [← range_at m]
 rw [List.map_map]
 rfl
theorem idxF_length (m : List Ser) : (idxF m).length = m.length := by simp [idxF]
set_option maxHeartbeats 2000000 in
theorem filedPoints (s key : ByteArray) (m : List Ser) (u : Value) (w : World) (B : Nat) (hm : GoodF s m) (hO : Lies w B 5 u (spR (idxF m))) (hB : B ≤ w.heap.size) (hs : s.size ≤ 1048576) (hst : SumTab w) (a0 a1 a2 : Addr) (he : Errs w a0 a1 a2) :
  Calls Tryz.prog 258 #[.agg #[.string s, u], .string key] w fun e w' => (∃ v, e = .returned v ∧ Owns w' w.heap.size 98 2 v (ptR (ptsAt m key))) ∧ Below w.heap.size w w' := by
 have HM : Hid (GoodF s m) := hm
 obtain ⟨A, c, rfl, _⟩ := sp_look hO
 rw [idxF_length] at hO ⊢
 generalize m.length = n at *
 obtain ⟨X0, hX0⟩ : ∃ X0, X0 = w.alloc (.cells #[.string s, .slice A n c] 191) := ⟨_, rfl⟩
 have BX : Hid (Below w.heap.size w X0) := by unfold Hid; rw [hX0]; exact (Below.refl _ w).alloc (Nat.le_refl _) _
 have c1 := findBlockV s key (idxF m) (.slice A n c) X0 B (.inl ⟨m, hm, rfl⟩) (hO.on (BX.out.mono hB)) (Nat.le_trans hB BX.out.size) hs (hst.on BX.out) a0 a1 a2 (he.on BX.out)
 clear hm hO hB hs hst he
 go_enter Tryz.func258, Tryz.ntmps258
 go_wp2_with fail
 rw [← hX0]
 clear hX0
 refine c1.mono ?_
 rintro e X1 ⟨⟨v, l, ok, rfl, hF, hO1⟩, hb1⟩
 have HF : Hid (l = ptsAt m key) := hF.pts HM.out
 have O1 : Hid (Owns X1 w.heap.size 98 2 v (ptR (ptsAt m key))) := by unfold Hid; rw [← HF.out]; exact hO1.mono BX.out.size
 have B1 : Hid (Below w.heap.size w X1) := BX.out.trans (hb1.mono BX.out.size)
 clear hF hO1 hb1 c1 HF
 go_wp2_with fail
 go_ret
 exact ⟨⟨_, rfl, O1.out⟩, B1.out⟩
theorem sp_cells {w : World} {B n c : Nat} {A : Option Addr} {l : List Spot} (h : Lies w B 5 (.slice A n c) (spR l)) : ∀ j, j < l.length → ∃ g off, A = some ⟨g, off, none⟩ ∧ g < B ∧
  w.cell? ⟨g, off + j * 5, none⟩ = some (.string (l.getD j default).key) ∧ w.cell? ⟨g, off + j * 5 + 1, none⟩ = some (.int .i64 ((l.getD j default).at' : Int)) ∧ w.cell? ⟨g, off + j * 5 + 2, none⟩ = some (.int .i64 ((l.getD j default).size : Int)) ∧
  w.cell? ⟨g, off + j * 5 + 3, none⟩ = some (.int .i64 ((l.getD j default).first : Int)) ∧ w.cell? ⟨g, off + j * 5 + 4, none⟩ = some (.int .i64 ((l.getD j default).last : Int)) := by
 obtain ⟨A', c', e, hl⟩ := sp_look h
 cases e
 exact hl
set_option maxHeartbeats 2000000 in
theorem filedKeys (s : ByteArray) (l : List Spot) (u : Value) (w : World) (B : Nat) (hO : Lies w B 5 u (spR l)) (hn : l.length ≤ 1000) (hB : B ≤ w.heap.size) :
  Calls Tryz.prog 257 #[.agg #[.string s, u]] w fun e w' => (∃ v, e = .returned v ∧ Owns w' w.heap.size 9 1 v (stR (l.map Spot.key))) ∧ Below w.heap.size w w' := by
 obtain ⟨A, cap, rfl, _⟩ := sp_look hO
 have HL : Hid (∀ wx, Below w.heap.size w wx → ∀ j, j < l.length → ∃ g off, A = some ⟨g, off, none⟩ ∧ g < B ∧
  wx.cell? ⟨g, off + j * 5, none⟩ = some (.string (l.getD j default).key) ∧ wx.cell? ⟨g, off + j * 5 + 1, none⟩ = some (.int .i64 ((l.getD j default).at' : Int)) ∧ wx.cell? ⟨g, off + j * 5 + 2, none⟩ = some (.int .i64 ((l.getD j default).size : Int)) ∧
  wx.cell? ⟨g, off + j * 5 + 3, none⟩ = some (.int .i64 ((l.getD j default).first : Int)) ∧ wx.cell? ⟨g, off + j * 5 + 4, none⟩ = some (.int .i64 ((l.getD j default).last : Int))) := fun wx hx => sp_cells (hO.on (hx.mono hB))
 have HT : Hid (∀ k, k < l.length → (l.take (k + 1)).map Spot.key = (l.take k).map Spot.key ++ [(l.getD k default).key]) := fun k hk => by rw [take_getD l k hk, List.map_append]; rfl
 have HA : Hid (∀ k, k = l.length → (l.take k).map Spot.key = l.map Spot.key) := fun k hk => by rw [hk, List.take_length]
 have q1 : (l.length : Int) ≤ 1000 := by omega
 have HLn : Hid (∀ k, k ≤ l.length → (stR ((l.take k).map Spot.key)).length ≤ 2097152) := fun k hk => by rw [stR_length, List.length_map, List.length_take]; omega
 clear hO hB
 generalize hN : l.length = n at *
 clear hN
 obtain ⟨X0, hX0⟩ : ∃ X0, X0 = w.alloc (.cells #[.string s, .slice A n cap] 191) := ⟨_, rfl⟩
 have BX : Hid (Below w.heap.size w X0) := by unfold Hid; rw [hX0]; exact (Below.refl _ w).alloc (Nat.le_refl _) _
 go_enter Tryz.func257, Tryz.ntmps257
 go_wp2_with fail
 rw [← hX0]
 clear hX0
 go_loopw [3, 9] (fun v3 v9 wr => ∃ k : Nat, k ≤ n ∧ v9 = .int .i64 (k : Int) ∧ Owns wr w.heap.size 9 1 v3 (stR ((l.take k).map Spot.key)) ∧ Below w.heap.size w wr) (fun _ i _ => n - (intOf i).toNat)
 case atStart => exact ⟨0, by omega, rfl, Owns.nil _ _ _ _, BX.out⟩
 case round =>
  obtain ⟨k, hk, rfl, hO, hb⟩ := hrel
  have HO : Hid (Owns wr w.heap.size 9 1 u3 (stR ((l.take k).map Spot.key))) := hO
  have HBr : Hid (Below w.heap.size w wr) := hb
  obtain ⟨A3, n3, c3, rfl⟩ := hO.shape
  clear hO hb
  by_cases hlt : k < n
  ·have q4 : (k : Int) < (n : Int) := by omega
   obtain ⟨g, off, rfl, hg, e0, e1, e2, e3, e4⟩ := HL.out wr HBr.out k hlt
   have HE : Hid ((l.take (k + 1)).map Spot.key = (l.take k).map Spot.key ++ [(l.getD k default).key]) := HT.out k hlt
   have L2 := HLn.out k hk
   generalize (l.take k).map Spot.key = o at *
   generalize l.getD k default = x at *
   obtain ⟨xk, xa, xz, xf, xl⟩ := x
   simp only at e0 e1 e2 e3 e4 HE
   obtain ⟨W1, hW1⟩ : ∃ W1, W1 = wr.alloc (.cells #[.string xk, .int .i64 (xa : Int), .int .i64 (xz : Int), .int .i64 (xf : Int), .int .i64 (xl : Int)] 127) := ⟨_, rfl⟩
   have HO2 : Hid (Owns (wr.alloc (.cells #[.string xk, .int .i64 (xa : Int), .int .i64 (xz : Int), .int .i64 (xf : Int), .int .i64 (xl : Int)] 127)) w.heap.size 9 1 (.slice A3 n3 c3) (stR o)) := HO.out.alloc _
   have BA : Hid (Below w.heap.size w (wr.alloc (.cells #[.string xk, .int .i64 (xa : Int), .int .i64 (xz : Int), .int .i64 (xf : Int), .int .i64 (xl : Int)] 127))) := HBr.out.alloc HBr.out.size _
   have Z : w.heap.size ≤ (wr.alloc (.cells #[.string xk, .int .i64 (xa : Int), .int .i64 (xz : Int), .int .i64 (xf : Int), .int .i64 (xl : Int)] 127)).heap.size := BA.out.size
   have LL : Hid ((stR o).length ≤ 2097152) := L2
   clear L2 hW1 W1
   go_wp2_with (at_builtin; refine Shut.out ?_)
   unfold Shut
   refine wpList_append_row (w := wr.alloc (.cells #[.string xk, .int .i64 (xa : Int), .int .i64 (xz : Int), .int .i64 (xf : Int), .int .i64 (xl : Int)] 127)) rfl (.tmp 13) (.tmp 16) 24 9 (.string ⟨#[]⟩) 1 16 rfl Tryz.underlying24 infoStr rfl (by omega) w.heap.size (.slice A3 n3 c3) (stR o) rfl HO2.out [.string xk] rfl (st_cell xk) (by rw [World.size_alloc]; rfl) LL.out (by omega) Z ?_
   intro v' w2 hO2 hb2 hk2 hw2
   obtain ⟨A2, n2, c2, rfl⟩ := hO2.shape
   have O2 : Hid (Owns w2 w.heap.size 9 1 (.slice A2 n2 c2) (stR (o ++ [xk]))) := by unfold Hid; rw [stR_append]; exact hO2
   have B2 : Hid (Below w.heap.size w w2) := BA.out.trans hb2
   clear hO2 hb2 hk2 hw2
   go_wp2_with fail
   go_roundw
   case rel => exact ⟨k + 1, by omega, by go_num, by rw [HE.out]; exact O2.out, B2.out⟩
   case measure => simp [intOf]; omega
  ·obtain rfl : k = n := by omega
   have HE : Hid ((l.take k).map Spot.key = l.map Spot.key) := HA.out k rfl
   go_wp2_with fail
   go_ret
   refine ⟨⟨_, rfl, ?_⟩, HBr.out⟩
   rw [← HE.out]
   exact HO.out
end Go.Proofs.YthhamlahdjokkaaGreatDoor
namespace Go.Proofs
open Go.Shelf
def Tryz.sortN_ren : Go.Shelf.Ren := ⟨fun | 6 => 175 | 8 => 199 | 9 => 198 | 19 => 217 | 20 => 218 | 21 => 208 | 22 => 209 | 23 => 210 | 24 => 211 | 25 => 212 | 26 => 213 | 27 => 214 | 28 => 215 | 29 => 216 | 36 => 224 | 31 => 225 | 32 => 226 | 37 => 227 | 38 => 228 | 39 => 229 | 41 => 235 | n => n, fun | 27 => 24 | 29 => 9 | 3 => 3 | 32 => 223 | 26 => 24 | 0 => 0 | 44 => 170 | 46 => 247 | 4 => 4 | 36 => 239 | 35 => 238 | 41 => 200 | 5 => 5 | 9 => 9 | 53 => 250 | 57 => 254 | 63 => 260 | 64 => 173 | n => n, fun | n => n⟩
theorem Tryz.sortN : Go.Proofs.SlLaysM.n6 Tryz.prog Tryz.sortN_ren := {
 mixed := by kernel_rfl
 f6 := ⟨Tryz.f175.name, by decide, Tryz.func175.trans (congrArg some (by kernel_rfl))⟩
 f8 := Tryz.func199.trans (congrArg some (by kernel_rfl))
 f9 := ⟨Tryz.f198.name, by decide, Tryz.func198.trans (congrArg some (by kernel_rfl))⟩
 f19 := Tryz.func217.trans (congrArg some (by kernel_rfl))
 f20 := Tryz.func218.trans (congrArg some (by kernel_rfl))
 f21 := ⟨Tryz.f208.name, by decide, Tryz.func208.trans (congrArg some (by kernel_rfl))⟩
 f22 := ⟨Tryz.f209.name, by decide, Tryz.func209.trans (congrArg some (by kernel_rfl))⟩
 f23 := ⟨Tryz.f210.name, by decide, Tryz.func210.trans (congrArg some (by kernel_rfl))⟩
 f24 := ⟨Tryz.f211.name, by decide, Tryz.func211.trans (congrArg some (by kernel_rfl))⟩
 f25 := ⟨Tryz.f212.name, by decide, Tryz.func212.trans (congrArg some (by kernel_rfl))⟩
 f26 := ⟨Tryz.f213.name, by decide, Tryz.func213.trans (congrArg some (by kernel_rfl))⟩
 f27 := ⟨Tryz.f214.name, by decide, Tryz.func214.trans (congrArg some (by kernel_rfl))⟩
 f28 := ⟨Tryz.f215.name, by decide, Tryz.func215.trans (congrArg some (by kernel_rfl))⟩
 f29 := ⟨Tryz.f216.name, by decide, Tryz.func216.trans (congrArg some (by kernel_rfl))⟩
 f31 := Tryz.func225.trans (congrArg some (by kernel_rfl))
 f32 := Tryz.func226.trans (congrArg some (by kernel_rfl))
 f36 := ⟨Tryz.f224.name, by decide, Tryz.func224.trans (congrArg some (by kernel_rfl))⟩
 f37 := ⟨Tryz.f227.name, by decide, Tryz.func227.trans (congrArg some (by kernel_rfl))⟩
 f38 := ⟨Tryz.f228.name, by decide, Tryz.func228.trans (congrArg some (by kernel_rfl))⟩
 f39 := ⟨Tryz.f229.name, by decide, Tryz.func229.trans (congrArg some (by kernel_rfl))⟩
 f41 := ⟨Tryz.f235.name, by decide, Tryz.func235.trans (congrArg some (by kernel_rfl))⟩
 t0 := Tryz.underlying0
 a0 := Tryz.isAgg0
 z0 := Tryz.sizeOf0
 v0 := Tryz.zeroValue0
 t3 := Tryz.underlying3
 a3 := Tryz.isAgg3
 z3 := Tryz.sizeOf3
 v3 := Tryz.zeroValue3
 t4 := Tryz.underlying4
 a4 := Tryz.isAgg4
 z4 := Tryz.sizeOf4
 v4 := Tryz.zeroValue4
 t5 := Tryz.underlying5
 a5 := Tryz.isAgg5
 z5 := Tryz.sizeOf5
 v5 := Tryz.zeroValue5
 t9 := Tryz.underlying9
 a9 := Tryz.isAgg9
 z9 := Tryz.sizeOf9
 v9 := Tryz.zeroValue9
 t26 := Tryz.underlying24
 a26 := Tryz.isAgg24
 z26 := Tryz.sizeOf24
 v26 := Tryz.zeroValue24
 t27 := Tryz.underlying24
 a27 := Tryz.isAgg24
 z27 := Tryz.sizeOf24
 v27 := Tryz.zeroValue24
 t29 := Tryz.underlying9
 a29 := Tryz.isAgg9
 z29 := Tryz.sizeOf9
 v29 := Tryz.zeroValue9
 t32 := Tryz.underlying223
 a32 := Tryz.isAgg223
 z32 := Tryz.sizeOf223
 v32 := Tryz.zeroValue223
 t35 := Tryz.underlying238
 a35 := Tryz.isAgg238
 z35 := Tryz.sizeOf238
 v35 := Tryz.zeroValue238
 t36 := Tryz.underlying239
 a36 := Tryz.isAgg239
 z36 := Tryz.sizeOf239
 v36 := Tryz.zeroValue239
 t41 := Tryz.underlying200
 a41 := Tryz.isAgg200
 z41 := Tryz.sizeOf200
 v41 := Tryz.zeroValue200
 t44 := Tryz.underlying170
 a44 := Tryz.isAgg170
 z44 := Tryz.sizeOf170
 v44 := Tryz.zeroValue170
 t46 := Tryz.underlying247
 a46 := Tryz.isAgg247
 z46 := Tryz.sizeOf247
 v46 := Tryz.zeroValue247
 t53 := Tryz.underlying250
 a53 := Tryz.isAgg250
 z53 := Tryz.sizeOf250
 v53 := Tryz.zeroValue250
 t57 := Tryz.underlying254
 a57 := Tryz.isAgg254
 z57 := Tryz.sizeOf254
 v57 := Tryz.zeroValue254
 t63 := Tryz.underlying260
 a63 := Tryz.isAgg260
 z63 := Tryz.sizeOf260
 v63 := Tryz.zeroValue260
 t64 := Tryz.underlying173
 a64 := Tryz.isAgg173
 z64 := Tryz.sizeOf173
 v64 := Tryz.zeroValue173 }
def Tryz.compactN_ren : Go.Shelf.Ren := ⟨fun | 44 => 176 | n => n, fun | 25 => 24 | 26 => 9 | 3 => 3 | 4 => 4 | 0 => 0 | n => n, fun | n => n⟩
theorem Tryz.compactN : Go.Proofs.SlLaysN.n44 Tryz.prog Tryz.compactN_ren := {
 mixed := by kernel_rfl
 f44 := ⟨Tryz.f176.name, by decide, Tryz.func176.trans (congrArg some (by kernel_rfl))⟩
 t0 := Tryz.underlying0
 a0 := Tryz.isAgg0
 z0 := Tryz.sizeOf0
 v0 := Tryz.zeroValue0
 t3 := Tryz.underlying3
 a3 := Tryz.isAgg3
 z3 := Tryz.sizeOf3
 v3 := Tryz.zeroValue3
 t4 := Tryz.underlying4
 a4 := Tryz.isAgg4
 z4 := Tryz.sizeOf4
 v4 := Tryz.zeroValue4
 t25 := Tryz.underlying24
 a25 := Tryz.isAgg24
 z25 := Tryz.sizeOf24
 v25 := Tryz.zeroValue24
 t26 := Tryz.underlying9
 a26 := Tryz.isAgg9
 z26 := Tryz.sizeOf9
 v26 := Tryz.zeroValue9
 i26 := by kernel_rfl }
end Go.Proofs
namespace Go.Proofs.YthhamlahdjokkaaGreatDoor
open Go.ChangeShapes Go.WideShapes Go.ChangeAt Go.RowKit Go.PlainAid Go.Shelf Go.Sort
set_option linter.unusedVariables false
def toL (k : ByteArray) : List UInt8 := k.data.toList
def ofL (x : List UInt8) : ByteArray := ⟨x.toArray⟩
theorem ofL_toL (k : ByteArray) : ofL (toL k) = k := by cases k; rfl
theorem toL_ofL (x : List UInt8) : toL (ofL x) = x := rfl
theorem toL_list (k : ByteArray) : k.toList = toL k := Lib.toList_data k
theorem ahd_toL (a b : ByteArray) : ahd a b = Op.bytesLess (toL a) (toL b) := by unfold ahd; rw [toL_list, toL_list]
theorem enc_ofL (l : List (List UInt8)) : l.map encStr = strCells (l.map ofL) := by
 unfold strCells
 rw [List.map_map]
 rfl
def leU (x y : List UInt8) : Bool := decide (x ≤ y)
theorem leU_iff (x y : List UInt8) : leU x y = true ↔ Op.bytesLess y x = false := by
 unfold leU
 rw [decide_eq_true_eq, bytesLess_eq, decide_eq_false_iff_not]
 exact List.not_lt.symm
theorem lt_of_le_ne {x y : List UInt8} (h : leU x y = true) (hne : x ≠ y) : Op.bytesLess x y = true := by
 rw [leU_iff] at h
 cases e : Op.bytesLess x y with
 | true => rfl
 | false => exact absurd (less_tri e h) hne
theorem lt_of_le_lt {x z y : List UInt8} (h : leU x z = true) (h2 : Op.bytesLess z y = true) : Op.bytesLess x y = true := by
 by_cases e : x = z
 ·rw [e]; exact h2
 ·exact less_trans (lt_of_le_ne h e) h2
theorem leU_trans (a b c : List UInt8) (h1 : leU a b = true) (h2 : leU b c = true) : leU a c = true := by
 unfold leU at *
 rw [decide_eq_true_eq] at *
 exact List.le_trans h1 h2
theorem leU_total (a b : List UInt8) : (leU a b || leU b a) = true := by
 unfold leU
 rcases List.le_total a b with h | h
 ·rw [decide_eq_true h]; rfl
 ·rw [decide_eq_true h, Bool.or_true]
theorem compact_up (zs : List (List UInt8)) (hs : zs.Pairwise fun x y => leU x y = true) : ∀ m, m ≤ zs.length → (Lib.compactUpTo zs.toArray m).Pairwise (fun x y => Op.bytesLess x y = true) ∧ ∀ x, x ∈ Lib.compactUpTo zs.toArray m ↔ ∃ j, j < m ∧ zs.toArray[j]! = x
 | 0, _ => ⟨by simp [Lib.compactUpTo], fun x => by simp [Lib.compactUpTo]⟩
 | m + 1, hm => by
  obtain ⟨h1, h2⟩ := compact_up zs hs m (by omega)
  have get : ∀ j (hj : j < zs.length), zs.toArray[j]! = zs[j] := fun j hj => by rw [getElem!_pos zs.toArray j (by simpa using hj)]; simp
  have hle : ∀ i j, i < j → j < zs.length → leU zs.toArray[i]! zs.toArray[j]! = true := fun i j hij hj => by
   rw [get i (by omega), get j hj]
   exact (List.pairwise_iff_getElem.1 hs) i j (by omega) hj hij
  rw [Lib.compactUpTo_succ]
  cases hk : Lib.keeps zs.toArray m with
  | true =>
   rw [if_pos rfl]
   refine ⟨List.pairwise_append.2 ⟨h1, List.pairwise_singleton _ _, fun x hx y hy => ?_⟩, fun x => ?_⟩
   ·rw [List.mem_singleton.1 hy]
    obtain ⟨j, hj, rfl⟩ := (h2 x).1 hx
    have hne : zs.toArray[m]! ≠ zs.toArray[m - 1]! := by
     unfold Lib.keeps at hk
     rcases of_decide_eq_true hk with h | h
     ·omega
     ·exact h
    have hlt : Op.bytesLess zs.toArray[m - 1]! zs.toArray[m]! = true := lt_of_le_ne (hle (m - 1) m (by omega) (by omega)) fun e => hne e.symm
    by_cases e : j = m - 1
    ·rw [e]; exact hlt
    ·exact lt_of_le_lt (hle j (m - 1) (by omega) (by omega)) hlt
   ·rw [List.mem_append, List.mem_singleton, h2]
    constructor
    ·rintro (⟨j, hj, e⟩ | e)
     ·exact ⟨j, by omega, e⟩
     ·exact ⟨m, by omega, e.symm⟩
    ·rintro ⟨j, hj, e⟩
     by_cases e2 : j = m
     ·exact .inr (by rw [← e, e2])
     ·exact .inl ⟨j, by omega, e⟩
  | false =>
   rw [if_neg (by simp), List.append_nil]
   refine ⟨h1, fun x => ?_⟩
   rw [h2]
   constructor
   ·rintro ⟨j, hj, e⟩; exact ⟨j, by omega, e⟩
   ·rintro ⟨j, hj, e⟩
    by_cases e2 : j = m
    ·unfold Lib.keeps at hk
     have hno := of_decide_eq_false hk
     have hm0 : m ≠ 0 := fun h => hno (.inl h)
     have heq : zs.toArray[m]! = zs.toArray[m - 1]! := Classical.byContradiction fun h => hno (.inr h)
     exact ⟨m - 1, by omega, by rw [← heq, ← e2]; exact e⟩
    ·exact ⟨j, by omega, e⟩
def onceK (ks : List ByteArray) : List (List UInt8) := Lib.compact ((ks.map toL).mergeSort fun x y => decide (x ≤ y))
theorem once_all (ks : List ByteArray) : (onceK ks).map ofL = allK ks := by
 have hs := List.pairwise_mergeSort (le := leU) leU_trans leU_total (ks.map toL)
 have hp := List.mergeSort_perm (ks.map toL) leU
 obtain ⟨h1, h2⟩ := compact_up ((ks.map toL).mergeSort leU) hs _ (Nat.le_refl _)
 have ho : onceK ks = Lib.compactUpTo ((ks.map toL).mergeSort leU).toArray ((ks.map toL).mergeSort leU).length := rfl
 refine riseK_ext ?_ (rise_allK ks) fun k => ?_
 ·unfold RiseK
  rw [List.pairwise_map, ho]
  exact h1.imp fun {x y} h => by rw [ahd_toL]; exact h
 ·rw [mem_allK, List.mem_map, ho]
  constructor
  ·rintro ⟨x, hx, rfl⟩
   obtain ⟨j, hj, rfl⟩ := (h2 x).1 hx
   rw [getElem!_pos _ j (by simpa using hj)]
   have hm : ((ks.map toL).mergeSort leU).toArray[j]'(by simpa using hj) ∈ ks.map toL := hp.subset (by simp)
   obtain ⟨y, hy, e⟩ := List.mem_map.1 hm
   rw [← e, ofL_toL]
   exact hy
  ·intro hk
   have hm : toL k ∈ (ks.map toL).mergeSort leU := hp.symm.subset (List.mem_map_of_mem hk)
   obtain ⟨j, hj, e⟩ := List.getElem_of_mem hm
   refine ⟨toL k, (h2 _).2 ⟨j, hj, ?_⟩, ofL_toL k⟩
   rw [getElem!_pos _ j (by simpa using hj)]
   simpa using e
theorem strs_enc {w : World} {base : Nat} {v : Value} {ks : List ByteArray} (h : Owns w base 9 1 v (stR ks)) : w.ownsRow base 9 1 v ks.length ((ks.map toL).map encStr) := by
 have := owns_strs h
 rw [enc_ofL, List.map_map, show (ofL ∘ toL) = id from funext ofL_toL, List.map_id]
 exact this
theorem enc_strs {w : World} {base : Nat} {v : Value} {n : Nat} {ss : List (List UInt8)} (hn : n = ss.length) (h : w.ownsRow base 9 1 v n (ss.map encStr)) : Owns w base 9 1 v (stR (ss.map ofL)) := by
 refine strs_owns ?_
 unfold Strs
 rw [List.length_map, ← hn, ← enc_ofL]
 exact h
theorem sortV (ks : List ByteArray) (v : Value) (w : World) (base : Nat) (h : Owns w base 9 1 v (stR ks)) (hn : ks.length ≤ 100000) :
  Calls Tryz.prog 175 #[v] w fun e w' => e = .returned (.tuple #[]) ∧ Owns w' base 9 1 v (stR (((ks.map toL).mergeSort fun x y => decide (x ≤ y)).map ofL)) ∧ Below base w w' := by
 have hs := strs_enc h
 rcases hs.2 with ⟨rfl, h0⟩ | ⟨g, c, cur, rfl, hbase, hb, h1, h2, h3, h4⟩
 ·refine (AnyM.slices_Sort_string_none Tryz.sortN none 0 w).mono ?_
  rintro e w' ⟨rfl, rfl⟩
  have : ks = [] := List.eq_nil_of_length_eq_zero h0
  subst this
  exact ⟨rfl, by simpa using h, Below.refl _ _⟩
 ·have hlt := (h.lt g rfl).2
  obtain ⟨g', cap', e', hbg, hgl, hnc, hcm, hlen, hH⟩ := Lib.holds_of_ownsRow hs (by intro e; cases e)
  cases e'
  have c1 := AnyM.slices_Sort_string Tryz.sortN g 0 c (ks.map toL) w hH hgl (by rw [List.length_map]; omega)
  rw [List.length_map] at c1
  refine c1.mono ?_
  rintro e w' ⟨rfl, n, os, rfl⟩
  have hl2 : ((ks.map toL).mergeSort fun x y => decide (x ≤ y)).length = (ks.map toL).length := List.length_mergeSort _
  have ho := ownsRow_sorted (n := n) (os := os) (ss := ks.map toL) (ts := (ks.map toL).mergeSort fun x y => decide (x ≤ y)) hl2 hbase hb (by rw [List.length_map]; exact h1) h2 h3
  rw [List.length_map] at ho
  exact ⟨rfl, enc_strs (by rw [hl2, List.length_map]) ho, (Below.refl base w).grown (grownBy_sorted _) (Nat.le_trans hbase (Nat.le_of_lt hlt)) (fun j hj => by cases hj; exact hbase)⟩
theorem compactV (zs : List (List UInt8)) (v : Value) (w : World) (base : Nat) (h : Owns w base 9 1 v (stR (zs.map ofL))) (hn : zs.length ≤ 100000) :
  Calls Tryz.prog 176 #[v] w fun e w' => (∃ u, e = .returned u ∧ Owns w' base 9 1 u (stR ((Lib.compact zs).map ofL))) ∧ Below base w w' := by
 have hs := strs_enc h
 have hid : (zs.map ofL).map toL = zs := by rw [List.map_map, show (toL ∘ ofL) = id from funext toL_ofL, List.map_id]
 rw [hid, List.length_map] at hs
 rcases hs.2 with ⟨rfl, h0⟩ | ⟨g, c, cur, rfl, hbase, hb, h1, h2, h3, h4⟩
 ·refine (AnyG.slices_Compact_string_empty Tryz.compactN none 0 w).mono ?_
  rintro e w' ⟨rfl, rfl⟩
  have : zs = [] := List.eq_nil_of_length_eq_zero h0
  subst this
  exact ⟨⟨_, rfl, h⟩, Below.refl _ _⟩
 ·obtain ⟨g', cap', e', hbg, hgl, hnc, hcm, hlen, hH⟩ := Lib.holds_of_ownsRow hs (by intro e; cases e)
  cases e'
  have c1 := AnyG.slices_Compact_string Tryz.compactN g 0 c zs w hH (by omega) hnc
  refine c1.mono ?_
  rintro e w' ⟨rfl, q, rfl⟩
  have hle := Lib.compact_length_le zs
  have ho := Lib.ownsRow_putRow (q := q) (k := (Lib.compact zs).length) (ys := Lib.compact zs ++ List.replicate (zs.length - (Lib.compact zs).length) []) hs (by simp; omega) hle
  rw [List.take_left] at ho
  exact ⟨⟨_, rfl, enc_strs rfl ho⟩, Lib.below_putRow (Below.refl _ _) hbg⟩
end Go.Proofs.YthhamlahdjokkaaGreatDoor
namespace Go.Proofs.YthhamlahdjokkaaGreatDoor
open Go.ChangeShapes Go.WideShapes Go.ChangeAt Go.RowKit Go.PlainAid
set_option linter.unusedVariables false
def SrcV (w : World) (B : Nat) (v : Value) (l : List Ser) : Prop :=
 (∃ u, v = .iface 192 u ∧ SerV w B u l) ∨ (∃ s u, v = .iface 191 (.agg #[.string s, u]) ∧ s.size ≤ 1048576 ∧ GoodF s l ∧ Lies w B 5 u (spR (idxF l)))
theorem SrcV.on {w w' : World} {B : Nat} {v : Value} {l : List Ser} (h : SrcV w B v l) (hb : Below B w w') : SrcV w' B v l := by
 rcases h with ⟨u, h1, h2⟩ | ⟨s, u, h1, h2, h3, h4⟩
 ·exact .inl ⟨u, h1, h2.on hb⟩
 ·exact .inr ⟨s, u, h1, h2, h3, h4.on hb⟩
theorem SrcV.mono {w : World} {B C : Nat} {v : Value} {l : List Ser} (h : SrcV w B v l) (hB : B ≤ C) : SrcV w C v l := by
 rcases h with ⟨u, h1, h2⟩ | ⟨s, u, h1, h2, h3, h4⟩
 ·exact .inl ⟨u, h1, h2.mono hB⟩
 ·exact .inr ⟨s, u, h1, h2, h3, h4.mono hB⟩
theorem SrcV.one {w : World} {B : Nat} {v : Value} {l : List Ser} (h : SrcV w B v l) : v.oneCell' = true := by
 rcases h with ⟨u, rfl, _⟩ | ⟨s, u, rfl, _⟩ <;> rfl
def SrcL (w : World) (B : Nat) (us : List Value) (ls : List (List Ser)) : Prop := us.length = ls.length ∧ ∀ j, j < ls.length → SrcV w B (us.getD j default) (ls.getD j [])
def SrcsV (w : World) (B : Nat) (v : Value) (ls : List (List Ser)) : Prop := ∃ us, Lies w B 1 v (laR us) ∧ SrcL w B us ls
theorem SrcL.on {w w' : World} {B : Nat} {us : List Value} {ls : List (List Ser)} (h : SrcL w B us ls) (hb : Below B w w') : SrcL w' B us ls := ⟨h.1, fun j hj => (h.2 j hj).on hb⟩
theorem SrcL.mono {w : World} {B C : Nat} {us : List Value} {ls : List (List Ser)} (h : SrcL w B us ls) (hB : B ≤ C) : SrcL w C us ls := ⟨h.1, fun j hj => (h.2 j hj).mono hB⟩
theorem SrcsV.on {w w' : World} {B : Nat} {v : Value} {ls : List (List Ser)} (h : SrcsV w B v ls) (hb : Below B w w') : SrcsV w' B v ls := h.imp fun _ h => ⟨h.1.on hb, h.2.on hb⟩
theorem SrcsV.mono {w : World} {B C : Nat} {v : Value} {ls : List (List Ser)} (h : SrcsV w B v ls) (hB : B ≤ C) : SrcsV w C v ls := h.imp fun _ h => ⟨h.1.mono hB, h.2.mono hB⟩
theorem SrcL.snoc {w : World} {B : Nat} {us : List Value} {ls : List (List Ser)} (h : SrcL w B us ls) {u : Value} {l : List Ser} (hu : SrcV w B u l) : SrcL w B (us ++ [u]) (ls ++ [l]) := by
 refine ⟨by simp [h.1], fun j hj => ?_⟩
 rw [List.length_append, List.length_singleton] at hj
 by_cases e : j < ls.length
 ·rw [List.getD_eq_getElem?_getD, List.getD_eq_getElem?_getD, List.getElem?_append_left (by rw [h.1]; exact e), List.getElem?_append_left e, ← List.getD_eq_getElem?_getD, ← List.getD_eq_getElem?_getD]
  exact h.2 j e
 ·obtain rfl : j = ls.length := by omega
  rw [List.getD_eq_getElem?_getD, List.getD_eq_getElem?_getD, List.getElem?_append_right (by rw [h.1]; exact Nat.le_refl _), List.getElem?_append_right (Nat.le_refl _), h.1, Nat.sub_self]
  exact hu
theorem SrcsV.look {w : World} {B : Nat} {v : Value} {ls : List (List Ser)} (h : SrcsV w B v ls) : ∃ A cap, v = .slice A ls.length cap ∧ ∀ j, j < ls.length → ∃ g off u, A = some ⟨g, off, none⟩ ∧ g < B ∧ w.cell? ⟨g, off + j, none⟩ = some u ∧ SrcV w B u (ls.getD j []) := by
 obtain ⟨us, h1, h2⟩ := h
 obtain ⟨A, cap, e, hl⟩ := la_look h1
 refine ⟨A, cap, by rw [e, h2.1], fun j hj => ?_⟩
 obtain ⟨g, off, e, hg, hc⟩ := hl j (by rw [h2.1]; exact hj)
 exact ⟨g, off, _, e, hg, hc, h2.2 j hj⟩
theorem SrcsV.cells {w : World} {B n c : Nat} {A : Option Addr} {ls : List (List Ser)} (h : SrcsV w B (.slice A n c) ls) : ∀ j, j < ls.length → ∃ g off u, A = some ⟨g, off, none⟩ ∧ g < B ∧ w.cell? ⟨g, off + j, none⟩ = some u ∧ SrcV w B u (ls.getD j []) := by
 obtain ⟨A', c', e, hl⟩ := h.look
 cases e
 exact hl
theorem keysOf_take (ls : List (List Ser)) (i : Nat) (h : i < ls.length) : keysOf (ls.take (i + 1)) = keysOf (ls.take i) ++ (ls.getD i []).map Ser.key := by
 have e : ls.take (i + 1) = ls.take i ++ [ls.getD i []] := by
  rw [List.take_add_one, List.getElem?_eq_getElem h, List.getD_eq_getElem?_getD, List.getElem?_eq_getElem h]
  rfl
 rw [e, keysOf_snoc]
set_option maxHeartbeats 4000000 in
theorem implKeysOf (ls : List (List Ser)) (v : Value) (w : World) (B : Nat) (hv : SrcsV w B v ls) (hf : LFew ls) (hB : B ≤ w.heap.size) :
  Calls Tryz.prog 151 #[v] w fun e w' => (∃ u, e = .returned u ∧ Owns w' w.heap.size 9 1 u (stR (keysL ls))) ∧ Below w.heap.size w w' := by
 obtain ⟨A, cap, rfl, _⟩ := hv.look
 have HL : Hid (∀ wx, Below w.heap.size w wx → ∀ j, j < ls.length → ∃ g off u, A = some ⟨g, off, none⟩ ∧ g < B ∧ wx.cell? ⟨g, off + j, none⟩ = some u ∧ SrcV wx B u (ls.getD j [])) := fun wx hx => (hv.on (hx.mono hB)).cells
 have HB : Hid (B ≤ w.heap.size) := hB
 have HT : Hid (∀ i, i < ls.length → keysOf (ls.take (i + 1)) = keysOf (ls.take i) ++ (ls.getD i []).map Ser.key) := keysOf_take ls
 have HA : Hid (∀ i, i = ls.length → keysOf (ls.take i) = keysOf ls) := fun i hi => by rw [hi, List.take_length]
 have HLn : Hid (∀ i, i < ls.length → (ls.getD i []).length ≤ 10) := fun i hi => (hf.2 _ (getD_memL ls i hi)).1
 have HKl : Hid (∀ i, (keysOf (ls.take i)).length ≤ 100) := fun i => by
  have h1 := keysOf_len (ls.take i) fun l hl => (hf.2 l (List.mem_of_mem_take hl)).1
  have h2 : (ls.take i).length ≤ 10 := by rw [List.length_take]; have := hf.1; omega
  omega
 have q1 : (ls.length : Int) ≤ 10 := by have := hf.1; omega
 clear hv hB hf
 generalize hN : ls.length = n at *
 clear hN
 go_enter Tryz.func151, Tryz.ntmps151
 go_wp2_with fail
 go_loopw [3, 8] (fun v3 v8 wr => ∃ i : Nat, i ≤ n ∧ v8 = .int .i64 (i : Int) ∧ Owns wr w.heap.size 9 1 v3 (stR (keysOf (ls.take i))) ∧ Below w.heap.size w wr) (fun _ i _ => n - (intOf i).toNat)
 case atStart => exact ⟨0, by omega, rfl, Owns.nil _ _ _ _, Below.refl _ _⟩
 case round =>
  obtain ⟨i, hi, rfl, hO, hb⟩ := hrel
  have HO : Hid (Owns wr w.heap.size 9 1 u3 (stR (keysOf (ls.take i)))) := hO
  have HBr : Hid (Below w.heap.size w wr) := hb
  obtain ⟨A3, n3, c3, rfl⟩ := hO.shape
  clear hO hb
  by_cases hlt : i < n
  ·have q4 : (i : Int) < (n : Int) := by omega
   obtain ⟨g, off, u, rfl, hg, e1, hu⟩ := HL.out wr HBr.out i hlt
   have HE : Hid (keysOf (ls.take (i + 1)) = keysOf (ls.take i) ++ (ls.getD i []).map Ser.key) := HT.out i hlt
   have hli := HLn.out i hlt
   have hkl := HKl.out i
   have HKi : Hid ((stR (keysOf (ls.take i))).length + (stR ((ls.getD i []).map Ser.key)).length ≤ 2097152) := by unfold Hid; rw [stR_length, stR_length, List.length_map]; omega
   have Z : Hid (B ≤ wr.heap.size) := Nat.le_trans HB.out HBr.out.size
   generalize keysOf (ls.take i) = o at *
   generalize ls.getD i [] = li at *
   rcases hu with ⟨u', rfl, hS⟩ | ⟨s, u', rfl, hs1, hG, hX⟩
   ·have c1 := cachedKeys li u' wr B hS (by omega) Z.out
    clear hS
    go_wp2_with fail
    refine c1.mono ?_
    rintro e w2 ⟨⟨u2, rfl, hO2⟩, hb2⟩
    have OK : Hid (Owns w2 wr.heap.size 9 1 u2 (stR (li.map Ser.key))) := hO2
    have HO2 : Hid (Owns w2 w.heap.size 9 1 (.slice A3 n3 c3) (stR o)) := HO.out.on hb2
    have B2 : Hid (Below w.heap.size w w2) := HBr.out.trans (hb2.mono HBr.out.size)
    have Z2 : w.heap.size ≤ w2.heap.size := B2.out.size
    obtain ⟨A4, n4, c4, rfl⟩ := hO2.shape
    clear hO2 hb2 c1
    go_wp2_with (at_builtin; refine wpList_append_all rfl (.tmp 12) (.tmp 14) 24 9 (.string ⟨#[]⟩) 1 16 rfl Tryz.underlying24 infoStr rfl (by omega) w.heap.size (.slice A3 n3 c3) (.slice A4 n4 c4) (stR o) (stR (li.map Ser.key)) w2.heap.size rfl HO2.out OK.out.lies (st_one _) rfl HKi.out (by omega) Z2 ?_; intro v' w3 hO3 hb3 hk3 hw3; obtain ⟨A5, n5, c5, rfl⟩ := hO3.shape; refine Shut.out ?_)
    unfold Shut
    have O3 : Hid (Owns w3 w.heap.size 9 1 (.slice A5 n5 c5) (stR (o ++ li.map Ser.key))) := by unfold Hid; rw [stR_append]; exact hO3
    have B3 : Hid (Below w.heap.size w w3) := B2.out.trans hb3
    clear hO3 hb3 hk3 hw3
    go_wp2_with fail
    go_roundw
    case rel => exact ⟨i + 1, by omega, by go_num, by rw [HE.out]; exact O3.out, B3.out⟩
    case measure => simp [intOf]; omega
   ·have c1 := filedKeys s (idxF li) u' wr B hX (by rw [idxF_length]; omega) Z.out
    rw [idxF_keys] at c1
    clear hX hG hs1
    go_wp2_with fail
    refine c1.mono ?_
    rintro e w2 ⟨⟨u2, rfl, hO2⟩, hb2⟩
    have OK : Hid (Owns w2 wr.heap.size 9 1 u2 (stR (li.map Ser.key))) := hO2
    have HO2 : Hid (Owns w2 w.heap.size 9 1 (.slice A3 n3 c3) (stR o)) := HO.out.on hb2
    have B2 : Hid (Below w.heap.size w w2) := HBr.out.trans (hb2.mono HBr.out.size)
    have Z2 : w.heap.size ≤ w2.heap.size := B2.out.size
    obtain ⟨A4, n4, c4, rfl⟩ := hO2.shape
    clear hO2 hb2 c1
    go_wp2_with (at_builtin; refine wpList_append_all rfl (.tmp 12) (.tmp 14) 24 9 (.string ⟨#[]⟩) 1 16 rfl Tryz.underlying24 infoStr rfl (by omega) w.heap.size (.slice A3 n3 c3) (.slice A4 n4 c4) (stR o) (stR (li.map Ser.key)) w2.heap.size rfl HO2.out OK.out.lies (st_one _) rfl HKi.out (by omega) Z2 ?_; intro v' w3 hO3 hb3 hk3 hw3; obtain ⟨A5, n5, c5, rfl⟩ := hO3.shape; refine Shut.out ?_)
    unfold Shut
    have O3 : Hid (Owns w3 w.heap.size 9 1 (.slice A5 n5 c5) (stR (o ++ li.map Ser.key))) := by unfold Hid; rw [stR_append]; exact hO3
    have B3 : Hid (Below w.heap.size w w3) := B2.out.trans hb3
    clear hO3 hb3 hk3 hw3
    go_wp2_with fail
    go_roundw
    case rel => exact ⟨i + 1, by omega, by go_num, by rw [HE.out]; exact O3.out, B3.out⟩
    case measure => simp [intOf]; omega
  ·obtain rfl : i = n := by omega
   have HAi : Hid (keysOf (ls.take i) = keysOf ls) := HA.out i rfl
   have HKi : Hid ((keysOf (ls.take i)).length ≤ 100) := HKl.out i
   have c1 := sortV (keysOf (ls.take i)) (.slice A3 n3 c3) wr w.heap.size HO.out (by have := HKi.out; omega)
   go_wp2_with fail
   refine c1.mono ?_
   rintro e w2 ⟨rfl, hO2, hb2⟩
   have B2 : Hid (Below w.heap.size w w2) := HBr.out.trans hb2
   have c2 := compactV (((keysOf (ls.take i)).map toL).mergeSort fun x y => decide (x ≤ y)) (.slice A3 n3 c3) w2 w.heap.size hO2 (by rw [List.length_mergeSort, List.length_map]; have := HKi.out; omega)
   have HEn : Hid ((Lib.compact (((keysOf (ls.take i)).map toL).mergeSort fun x y => decide (x ≤ y))).map ofL = keysL ls) := by unfold Hid; rw [HAi.out]; exact once_all _
   clear hO2 hb2 c1
   go_wp2_with fail
   refine c2.mono ?_
   rintro e w3 ⟨⟨u, rfl, hO3⟩, hb3⟩
   have O3 : Hid (Owns w3 w.heap.size 9 1 u (stR (keysL ls))) := by unfold Hid; rw [← HEn.out]; exact hO3
   have B3 : Hid (Below w.heap.size w w3) := B2.out.trans hb3
   clear hO3 hb3 c2 HEn
   go_wp2_with fail
   go_ret
   exact ⟨⟨_, rfl, O3.out⟩, B3.out⟩
end Go.Proofs.YthhamlahdjokkaaGreatDoor
