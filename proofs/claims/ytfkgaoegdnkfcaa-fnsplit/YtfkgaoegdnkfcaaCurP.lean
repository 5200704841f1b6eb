/-
  The cursor's calls without their values.
-/
import Derived.Test.YtfkgaoegdnkfcaaRows
import Derived.Test.YtfkgaoegdnkfcaaCurNew
import Derived.Test.YtfkgaoegdnkfcaaCurOnce
import Derived.Test.YtfkgaoegdnkfcaaNmAid
import Derived.Test.YtfkgaoegdnkfcaaPtPut
import Derived.Deep.RegionHeld3
import Derived.Handy
namespace Go.Proofs.Ytfkgaoegdnkfcaa
open Go.ChangeShapes Go.WideShapes Go.ChangeAt Go.RowKit Go.PlainAid
set_option linter.unusedVariables false

theorem Try.infoInt : (Try.prog.info? 3).map (fun i => (i.zero, i.size, i.bytes)) = some (some (.int .i64 0), 1, 8) := by kernel_rfl
theorem CodeIs.on {w w' : World} {ao : Option Addr} {len : Nat} {cs : Nat → Nat} (h : CodeIs w w.heap.size ao len cs) (hb : Below w.heap.size w w') : CodeIs w' w'.heap.size ao len cs := by
  rcases h with h | ⟨cb, co, rfl, hcb, hj⟩
  · exact .inl h
  · exact .inr ⟨cb, co, rfl, Nat.lt_of_lt_of_le hcb hb.size, fun j hj' => ⟨(hj j hj').1, by rw [← (hj j hj').2]; exact World.cell?_of_block (w := w) (hb.block cb hcb)⟩⟩
set_option maxHeartbeats 400000 in
theorem big_no (w : World) (ao : Option Addr) (len cap : Nat) (hl : len ≤ 1048576) : Calls Try.prog 7 #[.slice ao len cap] w fun e w' => e = .returned (.bool false) ∧ w = w' := by
  have q : (len : Int) ≤ 1048576 := by omega
  have q2 : decide ((1048576 : Int) < (len : Int)) = false := by simp; omega
  go_enter Try.func7, Try.ntmps7
  go_wp2
  go_ret
  exact ⟨rfl, rfl⟩
set_option maxHeartbeats 400000 in
theorem big_yes (w : World) (ao : Option Addr) (len cap : Nat) (hl : 1048576 < len) (h2 : len ≤ 9223372036854775807) : Calls Try.prog 7 #[.slice ao len cap] w fun e w' => e = .returned (.bool true) ∧ w = w' := by
  have q : (1048576 : Int) < (len : Int) := by omega
  go_enter Try.func7, Try.ntmps7
  go_wp2
  go_ret
  exact ⟨rfl, rfl⟩
set_option maxHeartbeats 1000000 in
theorem pick_any (w : World) (p : Nat) (ao : Option Addr) (len cap : Nat) (cs : Nat → Nat) (s : Pos) (g : Nat) (xs : List Int) (hn : 0 < xs.length) (hn2 : xs.length ≤ 1000) (h : At w p ao len cap cs s) (hgp : g ≠ p) (hg : g < w.heap.size)
    (hcell : ∀ j, j < xs.length → w.cell? ⟨g, j, none⟩ = some (.int .i64 (xs.getD j 0))) :
    Calls Try.prog 37 #[.pointer (some ⟨p, 0, none⟩), .slice (some ⟨g, 0, none⟩) xs.length xs.length] w fun e w' =>
      e = .returned (.int .i64 (xs.getD (belowV len cs (xs.length : Int) s).toNat 0)) ∧ At w' p ao len cap cs (belowP len (xs.length : Int) s) ∧ Mod w.heap.size p w w' := by
  have HA : Hid (At w p ao len cap cs s) := h
  clear h
  have HC : Hid (∀ j, j < xs.length → w.cell? ⟨g, j, none⟩ = some (.int .i64 (xs.getD j 0))) := hcell
  clear hcell
  have hb := belowV_bd len cs (xs.length : Int) s
  have q0 : (xs.length : Int) ≤ 1000 := by omega
  go_enter Try.func37, Try.ntmps37
  go_wp2_with fail
  refine (below_any _ p ao len cap cs s (xs.length : Int) (by omega) HA.out).mono ?_
  rintro e w1 ⟨rfl, hA1, hm1⟩
  obtain ⟨k, hk⟩ := Int.eq_ofNat_of_zero_le hb.1
  have hk2 : k < xs.length := by have := hb.2 (by omega); omega
  have HB : Hid (belowV len cs (xs.length : Int) s = (k : Int)) := hk
  rw [hk]
  clear hk hb
  have hc1 : w1.cell? ⟨g, k, none⟩ = some (.int .i64 (xs.getD k 0)) := by
    rw [← HC.out k hk2]
    exact World.cell?_of_block (w := w) (hm1.block g hg hgp)
  have q1 : (k : Int) < (xs.length : Int) := by omega
  go_wp2_with fail
  go_ret
  have ev : xs.getD ((k : Int)).toNat 0 = xs[k] := by simp [hk2]
  rw [HB.out, ev]
  exact ⟨rfl, hA1, hm1⟩
/-- A cursor lies in block p, wherever it stands. -/
def AtS (w : World) (p : Nat) : Prop := ∃ ao len cap cs s, At w p ao len cap cs s
theorem AtS.lt {w : World} {p : Nat} (h : AtS w p) : p < w.heap.size := by obtain ⟨_, _, _, _, _, h⟩ := h; exact h.lt
theorem AtS.below {w w' : World} {B p : Nat} (h : AtS w p) (hb : Below B w w') (hp : p < B) : AtS w' p := by
  obtain ⟨ao, len, cap, cs, s, h⟩ := h
  exact ⟨ao, len, cap, cs, s, h.below hb hp⟩
theorem Blk.mod {w w' : World} {C p g : Nat} {cs : Array Value} {t : TypeId} (h : Blk w g cs t) (hm : Mod C p w w') (hg : g < C) (hp : g ≠ p) : Blk w' g cs t := by
  unfold Blk
  rw [hm.block g hg hp]
  exact h
theorem once_some (w : World) (p : Nat) (n : Int) (h1 : n ≤ 1000) (h : AtS w p) :
    Calls Try.prog 36 #[.pointer (some ⟨p, 0, none⟩), .int .i64 n] w fun e w' => ∃ b : Bool, e = .returned (.bool b) ∧ AtS w' p ∧ Mod w.heap.size p w w' := by
  obtain ⟨ao, len, cap, cs, s, h⟩ := h
  exact (once_any w p ao len cap cs s n (by omega) h).mono fun e w' k => ⟨_, k.1, ⟨_, _, _, _, _, k.2.1⟩, k.2.2⟩
theorem Nums.mod {w w' : World} {C p base : Nat} {v : Value} {l : List Int} (h : Nums w base v l) (hm : Mod C p w w') (hp : p < base) (hC : w.heap.size ≤ C) : Nums w' base v l :=
  h.kept fun g hg ho => hm.block g (Nat.lt_of_lt_of_le hg hC) (by have := (h.lt g ho).1; omega)
theorem belowS (w : World) (p : Nat) (n : Int) (h0 : 0 < n) (h1 : n ≤ 1000000) (h : AtS w p) :
    Calls Try.prog 35 #[.pointer (some ⟨p, 0, none⟩), .int .i64 n] w fun e w' => ∃ v : Int, e = .returned (.int .i64 v) ∧ (0 ≤ v ∧ v < n) ∧ AtS w' p ∧ Mod w.heap.size p w w' := by
  obtain ⟨ao, len, cap, cs, s, h⟩ := h
  have bd := belowV_bd len cs n s
  exact (below_any w p ao len cap cs s n (by omega) h).mono fun e w' k => ⟨_, k.1, ⟨bd.1, bd.2 h0⟩, ⟨_, _, _, _, _, k.2.1⟩, k.2.2⟩
theorem getD_all (xs : List Int) (P : Int → Prop) (h0 : P 0) (h : ∀ z ∈ xs, P z) (j : Nat) : P (xs.getD j 0) := by
  by_cases hj : j < xs.length
  · refine h _ ?_
    simp [List.getD, hj]
  · simpa [List.getD, hj] using h0
theorem pickS (w : World) (p g : Nat) (xs : List Int) (n : Nat) (hn : xs.length = n) (h0 : 0 < n) (h1 : n ≤ 1000) (P : Int → Prop) (hP0 : P 0) (hP : ∀ z ∈ xs, P z) (h : AtS w p) (hgp : g ≠ p) (hB : Blk w g (numCells xs).toArray 3) :
    Calls Try.prog 37 #[.pointer (some ⟨p, 0, none⟩), .slice (some ⟨g, 0, none⟩) n n] w fun e w' => ∃ v : Int, e = .returned (.int .i64 v) ∧ P v ∧ AtS w' p ∧ Mod w.heap.size p w w' := by
  obtain ⟨ao, len, cap, cs, s, h⟩ := h
  subst hn
  refine (pick_any w p ao len cap cs s g xs h0 h1 h hgp hB.lt ?_).mono fun e w' k => ⟨_, k.1, getD_all xs P hP0 hP _, ⟨_, _, _, _, _, k.2.1⟩, k.2.2⟩
  intro j hj
  refine hB.cell _ _ ?_
  simp [numCells, hj]
/-- What is drawn: some row, one number at least. -/
def DrawnL (w : World) (p : Nat) (e : Ending) (w' : World) : Prop := ∃ u l, e = .returned u ∧ Nums w' w.heap.size u l ∧ (1 ≤ l.length ∧ l.length ≤ 600) ∧ AtS w' p ∧ Mod w.heap.size p w w'
theorem Owns.mod {w w' : World} {C p base : Nat} {e : TypeId} {sz : Nat} {v : Value} {rows : List (List Value)} (h : Owns w base e sz v rows) (hm : Mod C p w w') (hp : p < base) (hC : w.heap.size ≤ C) : Owns w' base e sz v rows :=
  h.kept fun g hg ho => hm.block g (Nat.lt_of_lt_of_le hg hC) (by have := (h.lt g ho).1; omega)
set_option maxHeartbeats 400000 in
theorem size_any (w : World) (ao : Option Addr) (len cap : Nat) (most : Nat) (hl : len ≤ 1048576) (h1 : 2 ≤ most) (h2 : most ≤ 500) :
    Calls Try.prog 30 #[.slice ao len cap, .int .i64 (most : Int)] w fun e w' => (∃ v : Int, e = .returned (.int .i64 v) ∧ 1 ≤ v ∧ v ≤ 500) ∧ w = w' := by
  have q1 : (len : Int) ≤ 1048576 := by omega
  have q2 : (most : Int) ≤ 500 := by omega
  by_cases hc : (most : Int) < 2 + (len : Int) / 20
  · go_enter Try.func30, Try.ntmps30
    go_wp2_with fail
    go_ret
    exact ⟨⟨_, rfl, by omega, by omega⟩, rfl⟩
  · go_enter Try.func30, Try.ntmps30
    go_wp2_with fail
    go_ret
    exact ⟨⟨2 + (len : Int) / 20, by go_num, by omega, by omega⟩, rfl⟩
end Go.Proofs.Ytfkgaoegdnkfcaa
