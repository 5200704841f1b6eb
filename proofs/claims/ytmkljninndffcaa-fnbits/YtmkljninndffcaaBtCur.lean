/-
  The cursor's calls without their values; DrawHex: some short text.
-/
import Derived.Test.YtmkljninndffcaaRows
import Derived.Test.YtmkljninndffcaaSnCus
import Derived.Test.YtmkljninndffcaaCurSpoi
import Derived.Test.YtmkljninndffcaaNmBlk
namespace Go.Proofs.Ytmkljninndffcaa
open Go.ChangeShapes Go.WideShapes Go.ChangeAt Go.RowKit Go.PlainAid
set_option linter.unusedVariables false

/-- A cursor lies in block p, wherever it stands. -/
def AtS (w : World) (p : Nat) : Prop := ∃ ao len cap cs s, At w p ao len cap cs s
theorem AtS.lt {w : World} {p : Nat} (h : AtS w p) : p < w.heap.size := by obtain ⟨_, _, _, _, _, h⟩ := h; exact h.lt
theorem AtS.below {w w' : World} {B p : Nat} (h : AtS w p) (hb : Below B w w') (hp : p < B) : AtS w' p := by
  obtain ⟨ao, len, cap, cs, s, h⟩ := h
  exact ⟨ao, len, cap, cs, s, h.below hb hp⟩
theorem Blk.mod {w w' : World} {C p g : Nat} {cs : Array Value} {t : TypeId} (h : Blk w g cs t) (hm : Mod C p w w') (hg : g < C) (hp : g ≠ p) : Blk w' g cs t := by
  unfold Blk
  rw [hm.block g hg hp]
  exact h
theorem below_some (w : World) (p : Nat) (n : Int) (h0 : 0 < n) (h1 : n ≤ 1000) (h : AtS w p) :
    Calls Try.prog 55 #[.pointer (some ⟨p, 0, none⟩), .int .i64 n] w fun e w' => ∃ v : Int, e = .returned (.int .i64 v) ∧ (0 ≤ v ∧ v < n) ∧ AtS w' p ∧ Mod w.heap.size p w w' := by
  obtain ⟨ao, len, cap, cs, s, h⟩ := h
  have bd := belowV_bd len cs n s
  exact (below_any w p ao len cap cs s n (by omega) h).mono fun e w' k => ⟨_, k.1, ⟨bd.1, bd.2 h0⟩, ⟨_, _, _, _, _, k.2.1⟩, k.2.2⟩
theorem once_some (w : World) (p : Nat) (n : Int) (h1 : n ≤ 1000) (h : AtS w p) :
    Calls Try.prog 52 #[.pointer (some ⟨p, 0, none⟩), .int .i64 n] w fun e w' => ∃ b : Bool, e = .returned (.bool b) ∧ AtS w' p ∧ Mod w.heap.size p w w' := by
  obtain ⟨ao, len, cap, cs, s, h⟩ := h
  exact (once_any w p ao len cap cs s n (by omega) h).mono fun e w' k => ⟨_, k.1, ⟨_, _, _, _, _, k.2.1⟩, k.2.2⟩
theorem text_some (w : World) (p : Nat) (n : Int) (h0 : 0 ≤ n) (h1 : n ≤ 1000) (h : AtS w p) :
    Calls Try.prog 36 #[.pointer (some ⟨p, 0, none⟩), .int .i64 n] w fun e w' => ∃ d : ByteArray, e = .returned (.string d) ∧ d.size ≤ 1000 ∧ AtS w' p ∧ Mod w.heap.size p w w' := by
  obtain ⟨ao, len, cap, cs, s, h⟩ := h
  have hl := textV_length len cs n s h0
  exact (text_any w p ao len cap cs s n h0 h1 h).mono fun e w' k => ⟨_, k.1, by rw [txt_size]; omega, ⟨_, _, _, _, _, k.2.1⟩, k.2.2⟩
set_option maxHeartbeats 400000 in
theorem drawHex (w : World) (ao : Option Addr) (len cap : Nat) (cs : Nat → Nat) (hl : len ≤ 1048576) (h : CodeIs w w.heap.size ao len cs) :
    Calls Try.prog 12 #[.slice ao len cap] w fun e w' => e = .returned (.string (txt (textV len cs 40 (newP len cs)))) ∧ Below w.heap.size w w' := by
  have HC : Hid (CodeIs w w.heap.size ao len cs) := h
  clear h
  go_enter Try.func12, Try.ntmps12
  go_wp2_with fail
  refine (new_any _ ao len cap cs hl HC.out).mono ?_
  rintro e w1 ⟨rfl, hA1, hb1⟩
  go_wp2_with fail
  refine (text_any _ _ ao len cap cs _ 40 (by omega) (by omega) hA1).mono ?_
  rintro e w2 ⟨rfl, hA2, hm2⟩
  go_wp2_with fail
  go_ret
  exact ⟨rfl, hb1.trans ((hm2.mono hb1.size).below (Nat.le_refl _))⟩
end Go.Proofs.Ytmkljninndffcaa
