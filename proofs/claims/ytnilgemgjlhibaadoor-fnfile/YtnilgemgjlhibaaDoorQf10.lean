/- CurP PtDraw CurX FlDrawA -/
import Derived.Test.YtnilgemgjlhibaaDoorRows
import Derived.Test.YtnilgemgjlhibaaDoorQf9
import Derived.Test.YtnilgemgjlhibaaDoorQf2
import Derived.Test.YtnilgemgjlhibaaDoorQf1
import Derived.Deep.RegionHeld3
import Derived.Handy
import Derived.Test.YtnilgemgjlhibaaDoorQf7
import Derived.Test.YtnilgemgjlhibaaDoorQf6
import Derived.Test.YtnilgemgjlhibaaDoorQf4
import Derived.ArgAppend
import Derived.WalkKit
import Derived.ProofKit
import Derived.OpenShut
import Derived.Below
import Derived.WalkSmall
import Derived.BigQuiet
import Derived.Deep.QuietTactic
import Derived.Deep.RegionWith
namespace Go.Proofs.YtnilgemgjlhibaaDoor
open Go.ChangeShapes Go.WideShapes Go.ChangeAt Go.RowKit Go.PlainAid
set_option linter.unusedVariables false
theorem CodeIs.on {w w' : World} {ao : Option Addr} {len : Nat} {cs : Nat → Nat} (h : CodeIs w w.heap.size ao len cs) (hb : Below w.heap.size w w') : CodeIs w' w'.heap.size ao len cs := by
 rcases h with h | ⟨cb, co, rfl, hcb, hj⟩
 ·exact .inl h
 ·exact .inr ⟨cb, co, rfl, Nat.lt_of_lt_of_le hcb hb.size, fun j hj' => ⟨(hj j hj').1, by rw [← (hj j hj').2]; exact World.cell?_of_block (w := w) (hb.block cb hcb)⟩⟩
set_option maxHeartbeats 400000 in
theorem big_no (w : World) (ao : Option Addr) (len cap : Nat) (hl : len ≤ 1048576) : Calls Tryd.prog 4 #[.slice ao len cap] w fun e w' => e = .returned (.bool false) ∧ w = w' := by
 have q : (len : Int) ≤ 1048576 := by omega
 have q2 : decide ((1048576 : Int) < (len : Int)) = false := by simp; omega
 go_enter Tryd.func4, Tryd.ntmps4
 go_wp2
 go_ret
 exact ⟨rfl, rfl⟩
set_option maxHeartbeats 400000 in
theorem big_yes (w : World) (ao : Option Addr) (len cap : Nat) (hl : 1048576 < len) (h2 : len ≤ 9223372036854775807) : Calls Tryd.prog 4 #[.slice ao len cap] w fun e w' => e = .returned (.bool true) ∧ w = w' := by
 have q : (1048576 : Int) < (len : Int) := by omega
 go_enter Tryd.func4, Tryd.ntmps4
 go_wp2
 go_ret
 exact ⟨rfl, rfl⟩
def AtS (w : World) (p : Nat) : Prop := ∃ ao len cap cs s, At w p ao len cap cs s
theorem AtS.lt {w : World} {p : Nat} (h : AtS w p) : p < w.heap.size := by obtain ⟨_, _, _, _, _, h⟩ := h; exact h.lt
theorem AtS.below {w w' : World} {B p : Nat} (h : AtS w p) (hb : Below B w w') (hp : p < B) : AtS w' p := by
 obtain ⟨ao, len, cap, cs, s, h⟩ := h
 exact ⟨ao, len, cap, cs, s, h.below hb hp⟩
theorem Blk.mod {w w' : World} {C p g : Nat} {cs : Array Value} {t : TypeId} (h : Blk w g cs t) (hm : Mod C p w w') (hg : g < C) (hp : g ≠ p) : Blk w' g cs t := by
 unfold Blk
 rw [hm.block g hg hp]
 exact h
theorem once_some (w : World) (p : Nat) (n : Int) (h1 : n ≤ 1000) (h : AtS w p) :
  Calls Tryd.prog 32 #[.pointer (some ⟨p, 0, none⟩), .int .i64 n] w fun e w' => ∃ b : Bool, e = .returned (.bool b) ∧ AtS w' p ∧ Mod w.heap.size p w w' := by
 obtain ⟨ao, len, cap, cs, s, h⟩ := h
 exact (once_any w p ao len cap cs s n (by omega) h).mono fun e w' k => ⟨_, k.1, ⟨_, _, _, _, _, k.2.1⟩, k.2.2⟩
theorem Nums.mod {w w' : World} {C p base : Nat} {v : Value} {l : List Int} (h : Nums w base v l) (hm : Mod C p w w') (hp : p < base) (hC : w.heap.size ≤ C) : Nums w' base v l :=
 h.kept fun g hg ho => hm.block g (Nat.lt_of_lt_of_le hg hC) (by have := (h.lt g ho).1; omega)
theorem belowS (w : World) (p : Nat) (n : Int) (h0 : 0 < n) (h1 : n ≤ 1000000) (h : AtS w p) :
  Calls Tryd.prog 34 #[.pointer (some ⟨p, 0, none⟩), .int .i64 n] w fun e w' => ∃ v : Int, e = .returned (.int .i64 v) ∧ (0 ≤ v ∧ v < n) ∧ AtS w' p ∧ Mod w.heap.size p w w' := by
 obtain ⟨ao, len, cap, cs, s, h⟩ := h
 have bd := belowV_bd len cs n s
 exact (below_any w p ao len cap cs s n (by omega) h).mono fun e w' k => ⟨_, k.1, ⟨bd.1, bd.2 h0⟩, ⟨_, _, _, _, _, k.2.1⟩, k.2.2⟩
theorem Owns.mod {w w' : World} {C p base : Nat} {e : TypeId} {sz : Nat} {v : Value} {rows : List (List Value)} (h : Owns w base e sz v rows) (hm : Mod C p w w') (hp : p < base) (hC : w.heap.size ≤ C) : Owns w' base e sz v rows :=
 h.kept fun g hg ho => hm.block g (Nat.lt_of_lt_of_le hg hC) (by have := (h.lt g ho).1; omega)
set_option maxHeartbeats 400000 in
theorem size_any (w : World) (ao : Option Addr) (len cap : Nat) (most : Nat) (hl : len ≤ 1048576) (h1 : 2 ≤ most) (h2 : most ≤ 500) :
  Calls Tryd.prog 16 #[.slice ao len cap, .int .i64 (most : Int)] w fun e w' => (∃ v : Int, e = .returned (.int .i64 v) ∧ 1 ≤ v ∧ v ≤ 500) ∧ w = w' := by
 have q1 : (len : Int) ≤ 1048576 := by omega
 have q2 : (most : Int) ≤ 500 := by omega
 by_cases hc : (most : Int) < 2 + (len : Int) / 20
 ·go_enter Tryd.func16, Tryd.ntmps16
  go_wp2_with fail
  go_ret
  exact ⟨⟨_, rfl, by omega, by omega⟩, rfl⟩
 ·go_enter Tryd.func16, Tryd.ntmps16
  go_wp2_with fail
  go_ret
  exact ⟨⟨2 + (len : Int) / 20, by go_num, by omega, by omega⟩, rfl⟩
end Go.Proofs.YtnilgemgjlhibaaDoor
namespace Go.Proofs.YtnilgemgjlhibaaDoor
open Go.ChangeShapes Go.WideShapes Go.ChangeAt Go.RowKit Go.PlainAid
set_option linter.unusedVariables false
def DrawnP (w : World) (p : Nat) (e : Ending) (w' : World) : Prop := ∃ u l, e = .returned u ∧ Owns w' w.heap.size 39 2 u (ptR l) ∧ l.length ≤ 600 ∧ AtS w' p ∧ Mod w.heap.size p w w'
set_option maxHeartbeats 2000000 in
theorem right_any (w : World) (p : Nat) (most : Int) (hm0 : 1 ≤ most) (hm1 : most ≤ 500) (h : AtS w p) : Calls Tryd.prog 33 #[.pointer (some ⟨p, 0, none⟩), .int .i64 most] w (DrawnP w p) := by
 have HP : Hid (p < w.heap.size) := h.lt
 have hal : Below w.heap.size w (w.alloc (.cells #[] 39)) := (Below.refl _ _).alloc (Nat.le_refl _) _
 have O0 : Hid (Owns (w.alloc (.cells #[] 39)) w.heap.size 39 2 (.slice (some ⟨w.heap.size, 0, none⟩) 0 0) []) := Owns.empty w _ _ _ (Nat.le_refl _)
 have A0 : Hid (AtS (w.alloc (.cells #[] 39)) p) := h.below hal h.lt
 have M0 : Hid (Mod w.heap.size p w (w.alloc (.cells #[] 39))) := Mod.of_below hal
 clear hal h
 go_enter Tryd.func33, Tryd.ntmps33
 go_wp2_with fail
 generalize w.alloc (.cells #[] 39) = w0 at *
 refine (belowS w0 p 250 (by omega) (by omega) A0.out).mono ?_
 rintro e w1 ⟨v1, rfl, ⟨v10, v11⟩, hA, hm⟩
 have A1 : Hid (AtS w1 p) := hA
 have M1 : Hid (Mod w.heap.size p w w1) := M0.out.trans (hm.mono M0.out.size)
 have O1 : Hid (Owns w1 w.heap.size 39 2 (.slice (some ⟨w.heap.size, 0, none⟩) 0 0) []) := O0.out.mod hm HP.out (Nat.le_refl _)
 clear hA hm A0 M0 O0
 go_wp2_with fail
 refine (belowS w1 p most (by omega) (by omega) A1.out).mono ?_
 rintro e w2 ⟨v2, rfl, ⟨v20, v21⟩, hA, hm⟩
 have A2 : Hid (AtS w2 p) := hA
 have M2 : Hid (Mod w.heap.size p w w2) := M1.out.trans (hm.mono M1.out.size)
 have O2 : Hid (Owns w2 w.heap.size 39 2 (.slice (some ⟨w.heap.size, 0, none⟩) 0 0) []) := O1.out.mod hm HP.out (Nat.le_refl _)
 obtain ⟨n2, rfl⟩ : ∃ n : Nat, v2 = (n : Int) := ⟨v2.toNat, by omega⟩
 clear hA hm A1 M1 O1
 go_wp2_with fail
 go_loopw [5, 6, 7] (fun v5 v6 v7 wr => ∃ (k : Nat) (t : Int) (l : List Pnt), (l.length + k ≤ 600 ∧ (0 ≤ t ∧ t ≤ 250 + 31 * (l.length : Int))) ∧ v7 = .int .i64 (k : Int) ∧ v6 = .int .i64 t ∧ Owns wr w.heap.size 39 2 v5 (ptR l) ∧ AtS wr p ∧ Mod w.heap.size p w wr) (fun _ _ i _ => (intOf i).toNat)
 case atStart => exact ⟨n2 + 1, _, [], ⟨by simp; omega, by simp; omega⟩, by go_num, rfl, O2.out, A2.out, M2.out⟩
 case round =>
  obtain ⟨k, t, l, ⟨hk, ht0, ht1⟩, rfl, rfl, hO, hA, hM⟩ := hrel
  have HO : Hid (Owns wr w.heap.size 39 2 u5 (ptR l)) := hO
  obtain ⟨A5, m5, k5, rfl⟩ := hO.shape
  have AR : Hid (AtS wr p) := hA
  have MR : Hid (Mod w.heap.size p w wr) := hM
  have HK : Hid (l.length + k ≤ 600) := hk
  have HT1 : Hid (0 ≤ t ∧ t ≤ 250 + 31 * (l.length : Int)) := ⟨ht0, ht1⟩
  have q1 : (k : Int) ≤ 600 := by omega
  have q0 : t ≤ 20000 := by omega
  clear hO hA hM hk ht1
  by_cases hlt : 0 < k
  ·have q2 : (0 : Int) < (k : Int) := by omega
   go_wp2_with fail
   refine (belowS wr p 40 (by omega) (by omega) AR.out).mono ?_
   rintro e w3 ⟨v3, rfl, ⟨v30, v31⟩, hA, hm⟩
   have A3 : Hid (AtS w3 p) := hA
   have M3 : Hid (Mod w.heap.size p w w3) := MR.out.trans (hm.mono MR.out.size)
   have O3 : Hid (Owns w3 w.heap.size 39 2 (.slice A5 m5 k5) (ptR l)) := HO.out.mod hm HP.out (Nat.le_refl _)
   have L3 : Hid ((ptR l).length ≤ 2097152) := by unfold Hid; rw [ptR_length]; have := HK.out; omega
   have Z3 := M3.out.size
   clear hA hm AR MR HO
   go_wp2_with (at_builtin; refine wpList_append_row (w := w3) rfl (.tmp 19) (.tmp 25) 32 39 (.agg #[.int .i64 0, .int .i64 0]) 2 16 rfl Tryd.underlying32 Tryd.infoPt rfl (by omega) w.heap.size (.slice A5 m5 k5) (ptR l) rfl O3.out [.int .i64 t, .int .i64 (v3 - 20)] rfl (pt_cells _ _) rfl L3.out (by omega) Z3 ?_; intro u' w4 hO4 hb4 _ _)
   have O4 : Hid (Owns w4 w.heap.size 39 2 u' (ptR (l ++ [⟨t, v3 - 20⟩]))) := by unfold Hid; rw [ptR_snoc']; exact hO4
   have A4 : Hid (AtS w4 p) := A3.out.below hb4 HP.out
   have M4 : Hid (Mod w.heap.size p w w4) := M3.out.trans (Mod.of_below hb4)
   clear hO4 hb4 A3 M3 O3
   go_wp2_with fail
   refine (belowS w4 p 30 (by omega) (by omega) A4.out).mono ?_
   rintro e w6 ⟨v6, rfl, ⟨v60, v61⟩, hA, hm⟩
   have A6 : Hid (AtS w6 p) := hA
   have M6 : Hid (Mod w.heap.size p w w6) := M4.out.trans (hm.mono M4.out.size)
   have O6 : Hid (Owns w6 w.heap.size 39 2 u' (ptR (l ++ [⟨t, v3 - 20⟩]))) := O4.out.mod hm HP.out (Nat.le_refl _)
   clear hA hm A4 M4 O4
   go_wp2_with fail
   go_roundw
   case rel => exact ⟨k - 1, t + 1 + v6, l ++ [⟨t, v3 - 20⟩], ⟨by have := HK.out; simp; omega, by have := HT1.out; simp; omega⟩, by go_num, by go_num, O6.out, A6.out, M6.out⟩
   case measure => simp [intOf]; omega
  ·obtain rfl : k = 0 := by omega
   go_wp2_with fail
   go_ret
   exact ⟨_, l, rfl, HO.out, by have := HK.out; omega, AR.out, MR.out⟩
end Go.Proofs.YtnilgemgjlhibaaDoor
namespace Go.Proofs.YtnilgemgjlhibaaDoor
open Go.ChangeShapes Go.WideShapes Go.ChangeAt Go.RowKit Go.PlainAid
set_option linter.unusedVariables false
def atV (len : Nat) (cs : Nat → Nat) (i : Nat) : Nat := if i < len then cs i else (i * 37 + len * 11) % 256
theorem atV_lt {w : World} {p : Nat} {ao : Option Addr} {len : Nat} {cs : Nat → Nat} (h : CodeIs w p ao len cs) (i : Nat) : atV len cs i < 256 := by
 unfold atV
 split
 ·rename_i hi
  obtain ⟨_, _, _, _, h, _⟩ := h.at hi
  exact h
 ·omega
set_option maxHeartbeats 400000 in
theorem at_any (w : World) (ao : Option Addr) (len cap : Nat) (cs : Nat → Nat) (i : Nat) (hl : len ≤ 1048576) (hi : i ≤ 100000) (h : CodeIs w w.heap.size ao len cs) :
  Calls Tryd.prog 12 #[.slice ao len cap, .int .i64 (i : Int)] w fun e w' => e = .returned (.int .i64 (atV len cs i : Int)) ∧ w = w' := by
 have q : (len : Int) ≤ 1048576 := by omega
 have q2 : (i : Int) ≤ 100000 := by omega
 by_cases hlt : i < len
 ·obtain ⟨cb, co, rfl, _, hb, hc⟩ := h.at hlt
  have q3 : (i : Int) < (len : Int) := by omega
  have EV : Hid (atV len cs i = cs i) := by unfold Hid; rw [atV, if_pos hlt]
  have w1 : IntKind.i64.wrap (cs i : Int) = (cs i : Int) := by rw [IntKind.wrap_i64]; omega
  generalize cs i = x at *
  clear h
  go_enter Tryd.func12, Tryd.ntmps12
  go_wp2
  go_ret
  exact ⟨by rw [EV.out]; rfl, rfl⟩
 ·have q3 : (len : Int) ≤ (i : Int) := by omega
  have EV : Hid ((atV len cs i : Int) = ((i : Int) * 37 + (len : Int) * 11) % 256) := by unfold Hid; rw [atV, if_neg hlt]; omega
  clear h
  go_enter Tryd.func12, Tryd.ntmps12
  go_wp2
  go_ret
  exact ⟨by rw [EV.out]; rfl, rfl⟩
end Go.Proofs.YtnilgemgjlhibaaDoor
namespace Go.Proofs.YtnilgemgjlhibaaDoor
open Go.ChangeShapes Go.WideShapes Go.ChangeAt Go.RowKit Go.PlainAid
set_option linter.unusedVariables false
def otherB : ByteArray := ⟨#[111, 116, 104, 101, 114]⟩
def KeyP (x : ByteArray) : Prop := x.size ≤ 9 ∧ x ≠ otherB
def names1 : List ByteArray := [⟨#[97]⟩, ⟨#[99, 112, 117]⟩, ⟨#[100, 105, 115, 107]⟩, ⟨#[109, 101, 109]⟩, ⟨#[122, 122, 122, 122, 122, 122, 122, 122]⟩]
def names2 : List ByteArray := [⟨#[]⟩, ⟨#[65]⟩, ⟨#[98]⟩, ⟨#[122, 122, 122, 122, 122, 122, 122, 122, 122]⟩, ⟨#[122, 122]⟩]
theorem keyP_of (l : List UInt8) (h : l.length ≤ 9) (h' : l ≠ [111, 116, 104, 101, 114]) : KeyP (txt l) := ⟨by rw [txt_size]; exact h, fun e => h' (txt_inj _ _ e)⟩
theorem names1_ok : ∀ x ∈ names1, KeyP x := by
 intro x hx
 simp only [names1, List.mem_cons, List.not_mem_nil, or_false] at hx
 rcases hx with rfl | rfl | rfl | rfl | rfl
 ·exact keyP_of [97] (by decide) (by decide)
 ·exact keyP_of [99, 112, 117] (by decide) (by decide)
 ·exact keyP_of [100, 105, 115, 107] (by decide) (by decide)
 ·exact keyP_of [109, 101, 109] (by decide) (by decide)
 ·exact keyP_of [122, 122, 122, 122, 122, 122, 122, 122] (by decide) (by decide)
theorem names2_ok : ∀ x ∈ names2, KeyP x := by
 intro x hx
 simp only [names2, List.mem_cons, List.not_mem_nil, or_false] at hx
 rcases hx with rfl | rfl | rfl | rfl | rfl
 ·exact keyP_of [] (by decide) (by decide)
 ·exact keyP_of [65] (by decide) (by decide)
 ·exact keyP_of [98] (by decide) (by decide)
 ·exact keyP_of [122, 122, 122, 122, 122, 122, 122, 122, 122] (by decide) (by decide)
 ·exact keyP_of [122, 122] (by decide) (by decide)
theorem SerO.mod {w w' : World} {C p base : Nat} {v : Value} {L : List (Ser × Value)} (h : SerO w base v L) (hm : Mod C p w w') (hp : p < base) (hC : w.heap.size ≤ C) : SerO w' base v L := ⟨h.1.mod hm hp hC, fun q hq => (h.2.1 q hq).mod hm hp hC, h.2.2⟩
def LDr (L : List (Ser × Value)) : Prop := ∀ q ∈ L, q.1.pts.length ≤ 600 ∧ KeyP q.1.key
theorem LDr.big {L : List (Ser × Value)} (h : LDr L) : ∀ q ∈ L, q.1.pts.length ≤ 700 ∧ KeyP q.1.key := fun q hq => ⟨Nat.le_trans (h q hq).1 (by omega), (h q hq).2⟩
theorem LDr.snoc {L : List (Ser × Value)} {x : Ser} {v : Value} (h : LDr L) (hp : x.pts.length ≤ 600) (hk : KeyP x.key) : LDr (L ++ [(x, v)]) := by
 intro q hq
 rcases List.mem_append.1 hq with hq | hq
 ·exact h q hq
 ·rw [List.mem_singleton.1 hq]
  exact ⟨hp, hk⟩
def DrawnF (w : World) (p : Nat) (e : Ending) (w' : World) : Prop := ∃ u l, e = .returned u ∧ SerV w' w'.heap.size u l ∧ l.length ≤ 6 ∧ (∀ x ∈ l, x.pts.length ≤ 700 ∧ KeyP x.key) ∧ Mod w.heap.size p w w'
theorem DrawnF.of {w w' : World} {p base : Nat} {u : Value} {L : List (Ser × Value)} (hO : SerO w' base u L) (hl : L.length ≤ 6) (hd : ∀ q ∈ L, q.1.pts.length ≤ 700 ∧ KeyP q.1.key) (hm : Mod w.heap.size p w w') : DrawnF w p (.returned u) w' :=
 ⟨u, L.map Prod.fst, rfl, hO.view, by rw [List.length_map]; exact hl, fun x hx => by
  obtain ⟨q, hq, rfl⟩ := List.mem_map.1 hx
  exact hd q hq, hm⟩
def strC (l : List ByteArray) : Array Value := (l.map Value.string).toArray
theorem strC_at (l : List ByteArray) (j : Nat) (hj : j < l.length) : (strC l)[j]? = some (.string (l.getD j ⟨#[]⟩)) := by
 simp [strC, List.getD, hj]
theorem strC_mem (l : List ByteArray) (j : Nat) (hj : j < l.length) : l.getD j ⟨#[]⟩ ∈ l := by
 rw [List.getD_eq_getElem?_getD, List.getElem?_eq_getElem hj]
 exact List.getElem_mem hj
set_option maxHeartbeats 1000000 in
theorem pickT (w : World) (p g : Nat) (xs : List ByteArray) (n : Nat) (hn : xs.length = n) (h0 : 0 < n) (h1 : n ≤ 1000) (h : AtS w p) (hgp : g ≠ p) (hB : Blk w g (strC xs) 9) :
  Calls Tryd.prog 35 #[.pointer (some ⟨p, 0, none⟩), .slice (some ⟨g, 0, none⟩) n n] w fun e w' => ∃ x : ByteArray, e = .returned (.string x) ∧ x ∈ xs ∧ AtS w' p ∧ Mod w.heap.size p w w' := by
 have HA : Hid (AtS w p) := h
 have HB : Hid (Blk w g (strC xs) 9) := hB
 have HN : Hid (xs.length = n) := hn
 have q0 : (n : Int) ≤ 1000 := by omega
 clear h hB hn
 go_enter Tryd.func35, Tryd.ntmps35
 go_wp2_with fail
 refine (belowS w p (n : Int) (by omega) (by omega) HA.out).mono ?_
 rintro e w1 ⟨v, rfl, ⟨v0, v1⟩, hA, hm⟩
 obtain ⟨k, rfl⟩ := Int.eq_ofNat_of_zero_le v0
 have B1 := Blk.mod HB.out hm HB.out.lt hgp
 have m1 := B1.cell k _ (strC_at xs k (by rw [HN.out]; omega))
 have HM : Hid (xs.getD k ⟨#[]⟩ ∈ xs) := strC_mem xs k (by rw [HN.out]; omega)
 have A1 : Hid (AtS w1 p) := hA
 have M1 : Hid (Mod w.heap.size p w w1) := hm
 generalize xs.getD k ⟨#[]⟩ = x at *
 clear hA hm B1
 go_wp2_with fail
 go_ret
 exact ⟨_, rfl, HM.out, A1.out, M1.out⟩
theorem add_lit0 (g o j : Nat) : (⟨g, o, none⟩ : Addr).add j = ⟨g, o + j, none⟩ := by cases j <;> simp [Addr.add]
theorem srR_flat (L : List (Ser × Value)) : (srR L).flatten.length = L.length * 2 := by rw [flat_length 2 _ (srR_sz L), srR_length]
theorem run_rot (w : World) (base g n c : Nat) (xk : ByteArray) (xp : List Pnt) (A8 : Option Addr) (n8 c8 : Nat) (L' : List (Ser × Value)) (hO : SerO w base (.slice (some ⟨g, 0, none⟩) n c) ((⟨xk, xp⟩, .slice A8 n8 c8) :: L')) (hn : L'.length + 1 = n) (h2 : 2 ≤ n) (hn5 : n ≤ 1000) (hbase : base ≤ g) (hbw : base ≤ w.heap.size) :
  ∃ A m cc w', (Builtin.append_ #[24, 24] 24 #[.slice (some ⟨g, 2, none⟩) (n - 1) (c - 1), .slice (some ⟨w.heap.size, 0, none⟩) 1 1]).run Tryd.prog (w.alloc (.cells #[.string xk, .slice A8 n8 c8] 36)) = .ok (.slice A m cc) w' ∧
   SerV w' w'.heap.size (.slice A m cc) ((L' ++ [((⟨xk, xp⟩ : Ser), Value.slice A8 n8 c8)]).map Prod.fst) ∧ Below base w w' := by
 obtain ⟨i0, hi, hz0, hz1, hz2⟩ := info_parts Tryd.infoSr
 have hOw : SerO (w.alloc (.cells #[.string xk, .slice A8 n8 c8] 36)) base (.slice (some ⟨g, 0, none⟩) n c) ((⟨xk, xp⟩, .slice A8 n8 c8) :: L') := hO.on ((Below.refl _ w).alloc (Nat.le_refl _) _)
 have hbW : Below base w (w.alloc (.cells #[.string xk, .slice A8 n8 c8] 36)) := (Below.refl _ w).alloc hbw _
 have hnew : Blk (w.alloc (.cells #[.string xk, .slice A8 n8 c8] 36)) w.heap.size #[.string xk, .slice A8 n8 c8] 36 := Blk.new w _ _
 have hgw : g < w.heap.size := (hO.1.lt g rfl).2
 generalize hW : w.alloc (.cells #[.string xk, .slice A8 n8 c8] 36) = W at *
 have hcells := World.ownsRow.cells hOw.1.2 (g := g) rfl
 have hfl : (srR ((((⟨xk, xp⟩ : Ser), Value.slice A8 n8 c8)) :: L')).flatten = [.string xk, .slice A8 n8 c8] ++ (srR L').flatten := rfl
 have hold : ∀ j y, (srR L').flatten[j]? = some y → W.cell? ⟨g, 2 + j, none⟩ = some y := fun j y hy => by
  have := hcells (2 + j) y (by rw [hfl, List.getElem?_append_right (by simp)]; simpa using hy)
  rwa [add_lit0, Nat.zero_add] at this
 have hnews : ∀ j y, ([.string xk, .slice A8 n8 c8] : List Value)[j]? = some y → W.cell? ((⟨w.heap.size, 0, none⟩ : Addr).add j) = some y := fun j y hy => by
  rw [add_lit0, Nat.zero_add]
  exact hnew.cell j y (by simpa using hy)
 have hone : ∀ y ∈ ([.string xk, .slice A8 n8 c8] : List Value), y.oneCell' = true := by intro y hy; simp only [List.mem_cons, List.not_mem_nil, or_false] at hy; rcases hy with rfl | rfl <;> rfl
 have hlen' : (srR L').flatten.length = (n - 1) * 2 := by rw [srR_flat]; omega
 have hres : srR (L' ++ [((⟨xk, xp⟩ : Ser), Value.slice A8 n8 c8)]) = srR L' ++ [[.string xk, .slice A8 n8 c8]] := srR_append _ _
 have hnl : (L' ++ [((⟨xk, xp⟩ : Ser), Value.slice A8 n8 c8)]).length = n := by rw [List.length_append]; simp only [List.length_singleton]; omega
 rcases hOw.1.2.2 with ⟨e, _⟩ | ⟨g', cap, cur, e, _, hh, hnc, hcm, hcs, _⟩
 ·cases e
 have hln : (srR (((⟨xk, xp⟩ : Ser), Value.slice A8 n8 c8) :: L')).length = n := by rw [srR_length]; simp only [List.length_cons]; omega
 rw [hln] at hnc e
 cases e
 have hB : Blk W g cur 36 := hh
 by_cases hroom : n - 1 + 1 ≤ c - 1
 ·have hsome : ∀ j, j < 2 → (W.cell? ⟨g, 2 + (n - 1) * 2 + j, none⟩).isSome = true := fun j hj => by
   have hlt : 2 + (n - 1) * 2 + j < cur.size := by rw [hcs]; omega
   rw [hB.cell _ _ (Array.getElem?_eq_getElem hlt)]
   rfl
  have hr := run_append_room_cells (P := Tryd.prog) W 24 24 36 i0 Tryd.underlying24 hi g 2 (n - 1) (c - 1) ⟨w.heap.size, 0, none⟩ 1 1 [.string xk, .slice A8 n8 c8] (by rw [hz1]; rfl) hnews hone hroom (fun j hj => by rw [hz1]; exact hsome j hj) (fun j hj => hB.free _)
  rw [hz1] at hr
  refine ⟨some ⟨g, 2, none⟩, n - 1 + 1, c - 1, _, hr, ⟨L' ++ [((⟨xk, xp⟩ : Ser), Value.slice A8 n8 c8)], rfl, ?_, ?_⟩, ?_⟩
  ·refine ⟨some ⟨g, 2, none⟩, c - 1, by rw [srR_length, hnl, show n - 1 + 1 = n by omega], ⟨fun e => (by cases e), by rw [srR_length, hnl]; omega⟩, srR_sz _, .inr ⟨g, 2, rfl, ?_, fun k y hy => ?_⟩⟩
   ·have h1 : (W.setCells g (2 + (n - 1) * 2) [.string xk, .slice A8 n8 c8]).heap.size = W.heap.size := by simp [World.setCells]
    rw [h1]
    exact hB.lt
   ·rw [hres, List.flatten_append] at hy
    by_cases hk : k < (n - 1) * 2
    ·rw [List.getElem?_append_left (by rw [hlen']; exact hk)] at hy
     rw [World.cell?_setCells_out g _ _ _ ⟨g, 2 + k, none⟩ (fun _ _ => .inl (by show 2 + k < _; omega))]
     exact hold k y hy
    ·rw [List.getElem?_append_right (by rw [hlen']; omega), hlen'] at hy
     have hk2 : k - (n - 1) * 2 < 2 := by
      have := (List.getElem?_eq_some_iff.1 hy).1
      simpa using this
     have := World.cell?_setCells_in g [.string xk, .slice A8 n8 c8] (2 + (n - 1) * 2) W (fun j hj => hsome j hj) (k - (n - 1) * 2) hk2
     rw [show 2 + (n - 1) * 2 + (k - (n - 1) * 2) = 2 + k by omega] at this
     rw [this]
     have hy' : ([.string xk, .slice A8 n8 c8] : List Value)[k - (n - 1) * 2]? = some y := by simpa using hy
     rw [List.getElem?_eq_getElem hk2] at hy'
     exact hy'
  ·intro q hq
   have hqm : q ∈ ((⟨xk, xp⟩ : Ser), Value.slice A8 n8 c8) :: L' := by
    rcases List.mem_append.1 hq with h | h
    ·exact List.mem_cons_of_mem _ h
    ·rw [List.mem_singleton.1 h]; exact List.mem_cons_self ..
   have h1 := hOw.2.1 q hqm
   have hne : q.2.ownBlock ≠ some g := fun e => h1.apartT hOw.1 (by decide) g e rfl
   have h2 : Owns (W.setCells g (2 + (n - 1) * 2) [.string xk, .slice A8 n8 c8]) base 39 2 q.2 (ptR q.1.pts) := (h1.other hne _ _).other hne _ _
   exact h2.lies
  ·exact (hbW.setCell (show base ≤ g from hbase) _).setCell (show base ≤ g from hbase) _
 ·obtain ⟨v', w', hr, hown, hgr⟩ := run_append_arg_grows (P := Tryd.prog) W 24 24 36 i0 (.agg #[.string ⟨#[]⟩, .slice none 0 0]) 2 40 Tryd.underlying24 hi hz0 hz1 hz2 rfl (by omega) ⟨g, 2, none⟩ (n - 1) (c - 1) (srR L').flatten hlen' (fun j y hy => by rw [add_lit0]; exact hold j y hy) ⟨w.heap.size, 0, none⟩ 1 1 [.string xk, .slice A8 n8 c8] rfl hnews (by omega) (by unfold maxLen; omega) (by omega)
  have hOn : Owns w' W.heap.size 36 2 v' (srR (L' ++ [((⟨xk, xp⟩ : Ser), Value.slice A8 n8 c8)])) := by
   refine ⟨srR_sz _, ?_⟩
   rw [hres, List.flatten_append, List.length_append, srR_length]
   have e1 : L'.length + [[Value.string xk, .slice A8 n8 c8]].length = n - 1 + 1 := by simp only [List.length_singleton]; omega
   rw [e1]
   simpa using hown
  obtain ⟨A, m, cc, rfl⟩ := hOn.shape
  have hbe : Below W.heap.size W w' := ⟨hgr.os, hgr.tape, hgr.output, hgr.size, fun k hk => hgr.block k hk (fun e => by cases e)⟩
  refine ⟨A, m, cc, w', hr, ⟨_, rfl, hOn.lies, fun q hq => ?_⟩, hbW.trans (hbe.mono (Nat.le_trans hbw hbW.size))⟩
  have hqm : q ∈ ((⟨xk, xp⟩ : Ser), Value.slice A8 n8 c8) :: L' := by
   rcases List.mem_append.1 hq with h | h
   ·exact List.mem_cons_of_mem _ h
   ·rw [List.mem_singleton.1 h]; exact List.mem_cons_self ..
  exact ((hOw.2.1 q hqm).on hbe).lies
end Go.Proofs.YtnilgemgjlhibaaDoor
