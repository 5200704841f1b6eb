/- CurPW WbDraw WbSt WbWal -/
import Derived.Test.YtfmannphobjgpaaRows
import Derived.Test.YtfmannphobjgpaaQc9
import Derived.Test.YtfmannphobjgpaaQc0
import Derived.Deep.RegionHeld3
import Derived.Handy
import Derived.Test.YtfmannphobjgpaaQc3
import Derived.Test.YtfmannphobjgpaaQc6
import Derived.WalkKit
import Derived.ProofKit
import Derived.OpenShut
import Derived.Below
import Derived.WalkSmall
import Derived.BigQuiet
import Derived.Deep.QuietTactic
import Derived.Deep.RegionWith
import Derived.Deep.Cut
import Derived.Deep.CutRange
open List (setIfInBounds_toArray set_cons_zero set_cons_succ)
namespace Go.Proofs.Ytfmannphobjgpaa
open Go.ChangeShapes Go.WideShapes Go.ChangeAt Go.RowKit Go.PlainAid
set_option linter.unusedVariables false
theorem CodeIs.on {w w' : World} {ao : Option Addr} {len : Nat} {cs : Nat → Nat} (h : CodeIs w w.heap.size ao len cs) (hb : Below w.heap.size w w') : CodeIs w' w'.heap.size ao len cs := by
 rcases h with h | ⟨cb, co, rfl, hcb, hj⟩
 ·exact .inl h
 ·exact .inr ⟨cb, co, rfl, Nat.lt_of_lt_of_le hcb hb.size, fun j hj' => ⟨(hj j hj').1, by rw [← (hj j hj').2]; exact World.cell?_of_block (w := w) (hb.block cb hcb)⟩⟩
set_option maxHeartbeats 400000 in
theorem big_no (w : World) (ao : Option Addr) (len cap : Nat) (hl : len ≤ 1048576) : Calls Try.prog 4 #[.slice ao len cap] w fun e w' => e = .returned (.bool false) ∧ w = w' := by
 have q : (len : Int) ≤ 1048576 := by omega
 have q2 : decide ((1048576 : Int) < (len : Int)) = false := by simp; omega
 go_enter Try.func4, Try.ntmps4
 go_wp2
 go_ret
 exact ⟨rfl, rfl⟩
set_option maxHeartbeats 400000 in
theorem big_yes (w : World) (ao : Option Addr) (len cap : Nat) (hl : 1048576 < len) (h2 : len ≤ 9223372036854775807) : Calls Try.prog 4 #[.slice ao len cap] w fun e w' => e = .returned (.bool true) ∧ w = w' := by
 have q : (1048576 : Int) < (len : Int) := by omega
 go_enter Try.func4, Try.ntmps4
 go_wp2
 go_ret
 exact ⟨rfl, rfl⟩
set_option maxHeartbeats 1000000 in
theorem pick_any (w : World) (p : Nat) (ao : Option Addr) (len cap : Nat) (cs : Nat → Nat) (s : Pos) (g : Nat) (xs : List Int) (hn : 0 < xs.length) (hn2 : xs.length ≤ 1000) (h : At w p ao len cap cs s) (hgp : g ≠ p) (hg : g < w.heap.size)
  (hcell : ∀ j, j < xs.length → w.cell? ⟨g, j, none⟩ = some (.int .i64 (xs.getD j 0))) :
  Calls Try.prog 33 #[.pointer (some ⟨p, 0, none⟩), .slice (some ⟨g, 0, none⟩) xs.length xs.length] w fun e w' =>
   e = .returned (.int .i64 (xs.getD (belowV len cs (xs.length : Int) s).toNat 0)) ∧ At w' p ao len cap cs (belowP len (xs.length : Int) s) ∧ Mod w.heap.size p w w' := by
 have HA : Hid (At w p ao len cap cs s) := h
 clear h
 have HC : Hid (∀ j, j < xs.length → w.cell? ⟨g, j, none⟩ = some (.int .i64 (xs.getD j 0))) := hcell
 clear hcell
 have hb := belowV_bd len cs (xs.length : Int) s
 have q0 : (xs.length : Int) ≤ 1000 := by omega
 go_enter Try.func33, Try.ntmps33
 go_wp2_with fail
 refine (below_any _ p ao len cap cs s (xs.length : Int) (by omega) HA.out).mono ?_
 rintro e w1 ⟨rfl, hA1, hm1⟩
 obtain ⟨k, hk⟩ := Int.eq_ofNat_of_zero_le hb.1
 have hk2 : k < xs.length := by have := hb.2 (by omega); omega
 have HB : Hid (belowV len cs (xs.length : Int) s = (k : Int)) := hk
 rw [hk]
 clear hk hb
 have hc1 : w1.cell? ⟨g, k, none⟩ = some (.int .i64 (xs.getD k 0)) := by
  rw [← HC.out k hk2]
  exact World.cell?_of_block (w := w) (hm1.block g hg hgp)
 have q1 : (k : Int) < (xs.length : Int) := by omega
 go_wp2_with fail
 go_ret
 have ev : xs.getD ((k : Int)).toNat 0 = xs[k] := by simp [hk2]
 rw [HB.out, ev]
 exact ⟨rfl, hA1, hm1⟩
def AtS (w : World) (p : Nat) : Prop := ∃ ao len cap cs s, At w p ao len cap cs s
theorem AtS.lt {w : World} {p : Nat} (h : AtS w p) : p < w.heap.size := by obtain ⟨_, _, _, _, _, h⟩ := h; exact h.lt
theorem AtS.below {w w' : World} {B p : Nat} (h : AtS w p) (hb : Below B w w') (hp : p < B) : AtS w' p := by
 obtain ⟨ao, len, cap, cs, s, h⟩ := h
 exact ⟨ao, len, cap, cs, s, h.below hb hp⟩
theorem Blk.mod {w w' : World} {C p g : Nat} {cs : Array Value} {t : TypeId} (h : Blk w g cs t) (hm : Mod C p w w') (hg : g < C) (hp : g ≠ p) : Blk w' g cs t := by
 unfold Blk
 rw [hm.block g hg hp]
 exact h
theorem once_some (w : World) (p : Nat) (n : Int) (h1 : n ≤ 1000) (h : AtS w p) :
  Calls Try.prog 14 #[.pointer (some ⟨p, 0, none⟩), .int .i64 n] w fun e w' => ∃ b : Bool, e = .returned (.bool b) ∧ AtS w' p ∧ Mod w.heap.size p w w' := by
 obtain ⟨ao, len, cap, cs, s, h⟩ := h
 exact (once_any w p ao len cap cs s n (by omega) h).mono fun e w' k => ⟨_, k.1, ⟨_, _, _, _, _, k.2.1⟩, k.2.2⟩
theorem Nums.mod {w w' : World} {C p base : Nat} {v : Value} {l : List Int} (h : Nums w base v l) (hm : Mod C p w w') (hp : p < base) (hC : w.heap.size ≤ C) : Nums w' base v l :=
 h.kept fun g hg ho => hm.block g (Nat.lt_of_lt_of_le hg hC) (by have := (h.lt g ho).1; omega)
theorem belowS (w : World) (p : Nat) (n : Int) (h0 : 0 < n) (h1 : n ≤ 1000000) (h : AtS w p) :
  Calls Try.prog 32 #[.pointer (some ⟨p, 0, none⟩), .int .i64 n] w fun e w' => ∃ v : Int, e = .returned (.int .i64 v) ∧ (0 ≤ v ∧ v < n) ∧ AtS w' p ∧ Mod w.heap.size p w w' := by
 obtain ⟨ao, len, cap, cs, s, h⟩ := h
 have bd := belowV_bd len cs n s
 exact (below_any w p ao len cap cs s n (by omega) h).mono fun e w' k => ⟨_, k.1, ⟨bd.1, bd.2 h0⟩, ⟨_, _, _, _, _, k.2.1⟩, k.2.2⟩
theorem getD_all (xs : List Int) (P : Int → Prop) (h0 : P 0) (h : ∀ z ∈ xs, P z) (j : Nat) : P (xs.getD j 0) := by
 by_cases hj : j < xs.length
 ·refine h _ ?_
  simp [List.getD, hj]
 ·simpa [List.getD, hj] using h0
theorem pickS (w : World) (p g : Nat) (xs : List Int) (n : Nat) (hn : xs.length = n) (h0 : 0 < n) (h1 : n ≤ 1000) (P : Int → Prop) (hP0 : P 0) (hP : ∀ z ∈ xs, P z) (h : AtS w p) (hgp : g ≠ p) (hB : Blk w g (numCells xs).toArray 3) :
  Calls Try.prog 33 #[.pointer (some ⟨p, 0, none⟩), .slice (some ⟨g, 0, none⟩) n n] w fun e w' => ∃ v : Int, e = .returned (.int .i64 v) ∧ P v ∧ AtS w' p ∧ Mod w.heap.size p w w' := by
 obtain ⟨ao, len, cap, cs, s, h⟩ := h
 subst hn
 refine (pick_any w p ao len cap cs s g xs h0 h1 h hgp hB.lt ?_).mono fun e w' k => ⟨_, k.1, getD_all xs P hP0 hP _, ⟨_, _, _, _, _, k.2.1⟩, k.2.2⟩
 intro j hj
 refine hB.cell _ _ ?_
 simp [numCells, hj]
theorem Owns.mod {w w' : World} {C p base : Nat} {e : TypeId} {sz : Nat} {v : Value} {rows : List (List Value)} (h : Owns w base e sz v rows) (hm : Mod C p w w') (hp : p < base) (hC : w.heap.size ≤ C) : Owns w' base e sz v rows :=
 h.kept fun g hg ho => hm.block g (Nat.lt_of_lt_of_le hg hC) (by have := (h.lt g ho).1; omega)
theorem text_some (w : World) (p : Nat) (n : Int) (h0 : 0 ≤ n) (h1 : n ≤ 1000) (h : AtS w p) :
  Calls Try.prog 35 #[.pointer (some ⟨p, 0, none⟩), .int .i64 n] w fun e w' => ∃ d : ByteArray, e = .returned (.string d) ∧ d.size ≤ 1000 ∧ AtS w' p ∧ Mod w.heap.size p w w' := by
 obtain ⟨ao, len, cap, cs, s, h⟩ := h
 have hl := textV_length len cs n s h0
 exact (text_any w p ao len cap cs s n h0 h1 h).mono fun e w' k => ⟨_, k.1, by rw [txt_size]; omega, ⟨_, _, _, _, _, k.2.1⟩, k.2.2⟩
end Go.Proofs.Ytfmannphobjgpaa
namespace Go.Proofs.Ytfmannphobjgpaa
open Go.ChangeShapes Go.WideShapes Go.ChangeAt Go.RowKit Go.PlainAid
set_option linter.unusedVariables false
theorem Try.infoEntB : (Try.prog.info? 58).map (fun i => (i.zero, i.size, i.bytes)) = some (some (.agg #[.int .i64 0, .string ⟨#[]⟩]), 2, 24) := by kernel_rfl
def DrawnEs (w : World) (p : Nat) (e : Ending) (w' : World) : Prop := ∃ u es, e = .returned u ∧ Owns w' w.heap.size 58 2 u (entR es) ∧ es.length ≤ 7 ∧ (∀ x ∈ es, x.data.size ≤ 1000) ∧ AtS w' p ∧ Mod w.heap.size p w w'
set_option maxHeartbeats 4000000 in
theorem entries_any (w : World) (p : Nat) (term top : Int) (h0 : -1000 ≤ term ∧ term ≤ 1000) (h1 : -1000 ≤ top ∧ top ≤ 1000) (h : AtS w p) : Calls Try.prog 49 #[.pointer (some ⟨p, 0, none⟩), .int .i64 6, .int .i64 term, .int .i64 top] w (DrawnEs w p) := by
 have HP : Hid (p < w.heap.size) := h.lt
 have hal : Below w.heap.size w (w.alloc (.cells #[] 58)) := (Below.refl _ _).alloc (Nat.le_refl _) _
 have N0 : Hid (Owns (w.alloc (.cells #[] 58)) w.heap.size 58 2 (.slice (some ⟨w.heap.size, 0, none⟩) 0 0) (entR [])) := Owns.empty w w.heap.size _ _ (Nat.le_refl _)
 have A0 : Hid (AtS (w.alloc (.cells #[] 58)) p) := h.below hal h.lt
 have M0 : Hid (Mod w.heap.size p w (w.alloc (.cells #[] 58))) := Mod.of_below hal
 clear hal h
 go_enter Try.func49, Try.ntmps49
 go_wp2_with fail
 generalize w.alloc (.cells #[] 58) = w0 at *
 refine (belowS w0 p 7 (by omega) (by omega) A0.out).mono ?_
 rintro e w1 ⟨v1, rfl, ⟨v10, v11⟩, hA, hm⟩
 have A1 : Hid (AtS w1 p) := hA
 have M1 : Hid (Mod w.heap.size p w w1) := M0.out.trans (hm.mono M0.out.size)
 have N1 : Hid (Owns w1 w.heap.size 58 2 (.slice (some ⟨w.heap.size, 0, none⟩) 0 0) (entR [])) := N0.out.mod hm HP.out (Nat.le_refl _)
 obtain ⟨n1, rfl⟩ : ∃ n : Nat, v1 = (n : Int) := ⟨v1.toNat, by omega⟩
 clear hA hm A0 M0 N0
 go_wp2_with fail
 go_loopw [2, 9, 10] (fun v2 v9 v10 wr => ∃ (k : Nat) (t : Int) (es : List Ent), es.length + k ≤ 7 ∧ (-1000 ≤ t ∧ t + k ≤ 1010) ∧ k ≤ 7 ∧ v10 = .int .i64 (k : Int) ∧ v2 = .int .i64 t ∧ Owns wr w.heap.size 58 2 v9 (entR es) ∧ (∀ x ∈ es, x.data.size ≤ 1000) ∧ AtS wr p ∧ Mod w.heap.size p w wr) (fun _ _ i _ => (intOf i).toNat)
 case atStart => exact ⟨n1, term, [], by simp; omega, by omega, by omega, rfl, rfl, N1.out, fun x hx => (by cases hx), A1.out, M1.out⟩
 case round =>
  obtain ⟨k, t, es, hk, ht, hk7, rfl, rfl, hN, hD, hA, hM⟩ := hrel
  have HN : Hid (Owns wr w.heap.size 58 2 _ (entR es)) := hN
  obtain ⟨A, m, c, rfl⟩ := hN.shape
  have HD : Hid (∀ x ∈ es, x.data.size ≤ 1000) := hD
  have AR : Hid (AtS wr p) := hA
  have MR : Hid (Mod w.heap.size p w wr) := hM
  have HK : Hid (es.length + k ≤ 7) := hk
  clear hN hA hM hk hD
  by_cases hlt : 0 < k
  ·have q2 : (0 : Int) < (k : Int) := by omega
   have g1 : IntKind.i64.wrap (t + 1) = t + 1 := by rw [IntKind.wrap_i64]; omega
   by_cases ht1 : t < 1
   ·have d1 : decide (t < 1) = true := decide_eq_true ht1
    by_cases htop : top < t + 1
    ·have dtop : decide (top < t + 1) = true := decide_eq_true htop
     go_wp2_with fail
     go_ret
     exact ⟨_, es, rfl, HN.out, by have := HK.out; omega, HD.out, AR.out, MR.out⟩
    ·have dtop : decide (top < t + 1) = false := decide_eq_false htop
     go_wp2_with fail
     refine (text_some wr p 8 (by omega) (by omega) AR.out).mono ?_
     rintro e w6 ⟨d, rfl, hd, hA, hm⟩
     have A6 : Hid (AtS w6 p) := hA
     have M6 : Hid (Mod w.heap.size p w w6) := MR.out.trans (hm.mono MR.out.size)
     have N6 : Hid (Owns w6 w.heap.size 58 2 (.slice A m c) (entR es)) := HN.out.mod hm HP.out (Nat.le_refl _)
     have hzz : w.heap.size ≤ w6.heap.size := M6.out.size
     clear hA hm
     have l6 : (entR es).length ≤ 2097152 := by rw [entR_length]; have := HK.out; omega
     have HL6 : Hid ((entR es).length ≤ 2097152) := l6
     clear l6
     go_wp2_with (at_builtin; refine Shut.out ?_)
     unfold Shut
     refine wpList_append_row (w := w6) rfl (.tmp 37) (.tmp 42) 24 58 (.agg #[.int .i64 0, .string ⟨#[]⟩]) 2 24 rfl Try.underlying24 Try.infoEntB rfl (by omega) w.heap.size (.slice A m c) (entR es) rfl N6.out [.int .i64 (t + 1), .string d] rfl (by intro y hy; simp at hy; rcases hy with rfl | rfl <;> rfl) rfl HL6.out (by omega) hzz ?_
     intro v' w7 hO7 hb7 hk7 _
     have A7 : Hid (AtS w7 p) := A6.out.below hb7 HP.out
     have M7 : Hid (Mod w.heap.size p w w7) := M6.out.trans (Mod.of_below hb7)
     have N7 : Hid (Owns w7 w.heap.size 58 2 v' (entR (es ++ [⟨t + 1, d⟩]))) := by unfold Hid entR; rw [List.map_append]; exact hO7
     have D7 : Hid (∀ x ∈ es ++ [(⟨t + 1, d⟩ : Ent)], x.data.size ≤ 1000) := fun x hx => by
      rcases List.mem_append.1 hx with hx | hx
      ·exact HD.out x hx
      ·rw [List.mem_singleton.1 hx]; exact hd
     obtain ⟨A', m', c', rfl⟩ := N7.out.shape
     clear hO7 hb7 hk7
     go_wp2_with fail
     go_roundw
     case rel => exact ⟨k - 1, t + 1, es ++ [⟨t + 1, d⟩], by have := HK.out; simp; omega, by omega, by omega, by go_num, rfl, N7.out, D7.out, A7.out, M7.out⟩
     case measure => simp [intOf]; omega
   ·have d1 : decide (t < 1) = false := decide_eq_false ht1
    by_cases ht2 : t < top
    ·have d2 : decide (t < top) = true := decide_eq_true ht2
     go_wp2_with fail
     refine (once_some wr p 3 (by omega) AR.out).mono ?_
     rintro e w5 ⟨b5, rfl, hA, hm⟩
     have A5 : Hid (AtS w5 p) := hA
     have M5 : Hid (Mod w.heap.size p w w5) := MR.out.trans (hm.mono MR.out.size)
     have N5 : Hid (Owns w5 w.heap.size 58 2 (.slice A m c) (entR es)) := HN.out.mod hm HP.out (Nat.le_refl _)
     clear hA hm
     cases b5
     ·by_cases htop : top < t
      ·have dtop : decide (top < t) = true := decide_eq_true htop
       go_wp2_with fail
       go_ret
       exact ⟨_, es, rfl, N5.out, by have := HK.out; omega, HD.out, A5.out, M5.out⟩
      ·have dtop : decide (top < t) = false := decide_eq_false htop
       go_wp2_with fail
       refine (text_some w5 p 8 (by omega) (by omega) A5.out).mono ?_
       rintro e w6 ⟨d, rfl, hd, hA, hm⟩
       have A6 : Hid (AtS w6 p) := hA
       have M6 : Hid (Mod w.heap.size p w w6) := M5.out.trans (hm.mono M5.out.size)
       have N6 : Hid (Owns w6 w.heap.size 58 2 (.slice A m c) (entR es)) := N5.out.mod hm HP.out (Nat.le_refl _)
       have hzz : w.heap.size ≤ w6.heap.size := M6.out.size
       clear hA hm
       have l6 : (entR es).length ≤ 2097152 := by rw [entR_length]; have := HK.out; omega
       have HL6 : Hid ((entR es).length ≤ 2097152) := l6
       clear l6
       go_wp2_with (at_builtin; refine Shut.out ?_)
       unfold Shut
       refine wpList_append_row (w := w6) rfl (.tmp 37) (.tmp 42) 24 58 (.agg #[.int .i64 0, .string ⟨#[]⟩]) 2 24 rfl Try.underlying24 Try.infoEntB rfl (by omega) w.heap.size (.slice A m c) (entR es) rfl N6.out [.int .i64 (t), .string d] rfl (by intro y hy; simp at hy; rcases hy with rfl | rfl <;> rfl) rfl HL6.out (by omega) hzz ?_
       intro v' w7 hO7 hb7 hk7 _
       have A7 : Hid (AtS w7 p) := A6.out.below hb7 HP.out
       have M7 : Hid (Mod w.heap.size p w w7) := M6.out.trans (Mod.of_below hb7)
       have N7 : Hid (Owns w7 w.heap.size 58 2 v' (entR (es ++ [⟨t, d⟩]))) := by unfold Hid entR; rw [List.map_append]; exact hO7
       have D7 : Hid (∀ x ∈ es ++ [(⟨t, d⟩ : Ent)], x.data.size ≤ 1000) := fun x hx => by
        rcases List.mem_append.1 hx with hx | hx
        ·exact HD.out x hx
        ·rw [List.mem_singleton.1 hx]; exact hd
       obtain ⟨A', m', c', rfl⟩ := N7.out.shape
       clear hO7 hb7 hk7
       go_wp2_with fail
       go_roundw
       case rel => exact ⟨k - 1, t, es ++ [⟨t, d⟩], by have := HK.out; simp; omega, by omega, by omega, by go_num, rfl, N7.out, D7.out, A7.out, M7.out⟩
       case measure => simp [intOf]; omega
     ·by_cases htop : top < t + 1
      ·have dtop : decide (top < t + 1) = true := decide_eq_true htop
       go_wp2_with fail
       go_ret
       exact ⟨_, es, rfl, N5.out, by have := HK.out; omega, HD.out, A5.out, M5.out⟩
      ·have dtop : decide (top < t + 1) = false := decide_eq_false htop
       go_wp2_with fail
       refine (text_some w5 p 8 (by omega) (by omega) A5.out).mono ?_
       rintro e w6 ⟨d, rfl, hd, hA, hm⟩
       have A6 : Hid (AtS w6 p) := hA
       have M6 : Hid (Mod w.heap.size p w w6) := M5.out.trans (hm.mono M5.out.size)
       have N6 : Hid (Owns w6 w.heap.size 58 2 (.slice A m c) (entR es)) := N5.out.mod hm HP.out (Nat.le_refl _)
       have hzz : w.heap.size ≤ w6.heap.size := M6.out.size
       clear hA hm
       have l6 : (entR es).length ≤ 2097152 := by rw [entR_length]; have := HK.out; omega
       have HL6 : Hid ((entR es).length ≤ 2097152) := l6
       clear l6
       go_wp2_with (at_builtin; refine Shut.out ?_)
       unfold Shut
       refine wpList_append_row (w := w6) rfl (.tmp 37) (.tmp 42) 24 58 (.agg #[.int .i64 0, .string ⟨#[]⟩]) 2 24 rfl Try.underlying24 Try.infoEntB rfl (by omega) w.heap.size (.slice A m c) (entR es) rfl N6.out [.int .i64 (t + 1), .string d] rfl (by intro y hy; simp at hy; rcases hy with rfl | rfl <;> rfl) rfl HL6.out (by omega) hzz ?_
       intro v' w7 hO7 hb7 hk7 _
       have A7 : Hid (AtS w7 p) := A6.out.below hb7 HP.out
       have M7 : Hid (Mod w.heap.size p w w7) := M6.out.trans (Mod.of_below hb7)
       have N7 : Hid (Owns w7 w.heap.size 58 2 v' (entR (es ++ [⟨t + 1, d⟩]))) := by unfold Hid entR; rw [List.map_append]; exact hO7
       have D7 : Hid (∀ x ∈ es ++ [(⟨t + 1, d⟩ : Ent)], x.data.size ≤ 1000) := fun x hx => by
        rcases List.mem_append.1 hx with hx | hx
        ·exact HD.out x hx
        ·rw [List.mem_singleton.1 hx]; exact hd
       obtain ⟨A', m', c', rfl⟩ := N7.out.shape
       clear hO7 hb7 hk7
       go_wp2_with fail
       go_roundw
       case rel => exact ⟨k - 1, t + 1, es ++ [⟨t + 1, d⟩], by have := HK.out; simp; omega, by omega, by omega, by go_num, rfl, N7.out, D7.out, A7.out, M7.out⟩
       case measure => simp [intOf]; omega
    ·have d2 : decide (t < top) = false := decide_eq_false ht2
     by_cases htop : top < t
     ·have dtop : decide (top < t) = true := decide_eq_true htop
      go_wp2_with fail
      go_ret
      exact ⟨_, es, rfl, HN.out, by have := HK.out; omega, HD.out, AR.out, MR.out⟩
     ·have dtop : decide (top < t) = false := decide_eq_false htop
      go_wp2_with fail
      refine (text_some wr p 8 (by omega) (by omega) AR.out).mono ?_
      rintro e w6 ⟨d, rfl, hd, hA, hm⟩
      have A6 : Hid (AtS w6 p) := hA
      have M6 : Hid (Mod w.heap.size p w w6) := MR.out.trans (hm.mono MR.out.size)
      have N6 : Hid (Owns w6 w.heap.size 58 2 (.slice A m c) (entR es)) := HN.out.mod hm HP.out (Nat.le_refl _)
      have hzz : w.heap.size ≤ w6.heap.size := M6.out.size
      clear hA hm
      have l6 : (entR es).length ≤ 2097152 := by rw [entR_length]; have := HK.out; omega
      have HL6 : Hid ((entR es).length ≤ 2097152) := l6
      clear l6
      go_wp2_with (at_builtin; refine Shut.out ?_)
      unfold Shut
      refine wpList_append_row (w := w6) rfl (.tmp 37) (.tmp 42) 24 58 (.agg #[.int .i64 0, .string ⟨#[]⟩]) 2 24 rfl Try.underlying24 Try.infoEntB rfl (by omega) w.heap.size (.slice A m c) (entR es) rfl N6.out [.int .i64 (t), .string d] rfl (by intro y hy; simp at hy; rcases hy with rfl | rfl <;> rfl) rfl HL6.out (by omega) hzz ?_
      intro v' w7 hO7 hb7 hk7 _
      have A7 : Hid (AtS w7 p) := A6.out.below hb7 HP.out
      have M7 : Hid (Mod w.heap.size p w w7) := M6.out.trans (Mod.of_below hb7)
      have N7 : Hid (Owns w7 w.heap.size 58 2 v' (entR (es ++ [⟨t, d⟩]))) := by unfold Hid entR; rw [List.map_append]; exact hO7
      have D7 : Hid (∀ x ∈ es ++ [(⟨t, d⟩ : Ent)], x.data.size ≤ 1000) := fun x hx => by
       rcases List.mem_append.1 hx with hx | hx
       ·exact HD.out x hx
       ·rw [List.mem_singleton.1 hx]; exact hd
      obtain ⟨A', m', c', rfl⟩ := N7.out.shape
      clear hO7 hb7 hk7
      go_wp2_with fail
      go_roundw
      case rel => exact ⟨k - 1, t, es ++ [⟨t, d⟩], by have := HK.out; simp; omega, by omega, by omega, by go_num, rfl, N7.out, D7.out, A7.out, M7.out⟩
      case measure => simp [intOf]; omega
  ·obtain rfl : k = 0 := by omega
   go_wp2_with fail
   go_ret
   exact ⟨_, es, rfl, HN.out, by have := HK.out; omega, HD.out, AR.out, MR.out⟩
end Go.Proofs.Ytfmannphobjgpaa
namespace Go.Proofs.Ytfmannphobjgpaa
open Go.ChangeShapes Go.WideShapes Go.ChangeAt Go.RowKit Go.PlainAid
set_option linter.unusedVariables false
structure WSt (w : World) (p g R N : Nat) (W : World) (t v b bt : Int) (es : List Ent) : Prop where
 k : ∃ A m c, Blk W g #[.int .i64 t, .int .i64 v, .int .i64 b, .int .i64 bt, .slice A m c] 26 ∧ Owns W w.heap.size 58 2 (.slice A m c) (entR es) ∧ m = es.length
 r : Blk W R #[.int .i64 0, .int .i64 0, .int .i64 0, .int .i64 0, .slice none 0 0] 26
 n : es.length ≤ N
 d : ∀ x ∈ es, x.data.size ≤ 1000
 a : AtS W p
 m : Mod w.heap.size p w W
 o : p < w.heap.size ∧ w.heap.size ≤ R ∧ R < g
theorem ent_len {W : World} {base n c : Nat} {A : Option Addr} {es : List Ent} (h : Owns W base 58 2 (.slice A n c) (entR es)) : n = es.length := by
 rcases h.2.2 with ⟨e, h0⟩ | ⟨g, cap, cur, e, _⟩
 ·simp only [Value.slice.injEq] at e
  rw [entR_length] at h0
  omega
 ·simp only [Value.slice.injEq] at e
  rw [e.2.1, entR_length]
section
variable {w W W' : World} {p g R N : Nat} {t v b bt : Int} {es : List Ent}
theorem WSt.draw (h : WSt w p g R N W t v b bt es) (hA : AtS W' p) (hm : Mod W.heap.size p W W') : WSt w p g R N W' t v b bt es := by
 obtain ⟨A, m, c, hk, hO, hl⟩ := h.k
 exact ⟨⟨A, m, c, hk.mod hm hk.lt (by have := h.o; omega), hO.mod hm h.o.1 (Nat.le_refl _), hl⟩, h.r.mod hm h.r.lt (by have := h.o; omega), h.n, h.d, hA, h.m.trans (hm.mono h.m.size), h.o⟩
theorem WSt.drew (h : WSt w p g R N W t v b bt es) : WSt w p g R N W.drew t v b bt es := h.draw (h.a.below (Below.refl W.heap.size W).drew h.a.lt) (Mod.of_below (Below.refl _ W).drew)
theorem WSt.more (h : WSt w p g R N W t v b bt es) {N' : Nat} (hN : N ≤ N') : WSt w p g R N' W t v b bt es := ⟨h.k, h.r, Nat.le_trans h.n hN, h.d, h.a, h.m, h.o⟩
theorem WSt.poke (h : WSt w p g R N W t v b bt es) (i : Nat) (x : Value) (t' v' b' bt' : Int) (hs : ∀ A m c, (#[.int .i64 t, .int .i64 v, .int .i64 b, .int .i64 bt, .slice A m c] : Array Value).setIfInBounds i x = #[.int .i64 t', .int .i64 v', .int .i64 b', .int .i64 bt', .slice A m c]) : WSt w p g R N (W.setCell ⟨g, i, none⟩ x) t' v' b' bt' es := by
 obtain ⟨A, m, c, hk, hO, hl⟩ := h.k
 have hb : Below w.heap.size W (W.setCell ⟨g, i, none⟩ x) := (Below.refl _ _).setCell (show w.heap.size ≤ g by have := h.o; omega) _
 refine ⟨⟨A, m, c, ?_, hO.other (hO.notBlk hk (by decide)) _ _, hl⟩, h.r.other (by have := h.o; omega) _ _, h.n, h.d, h.a.below hb h.o.1, h.m.trans (Mod.of_below hb), h.o⟩
 have := hk.set i x
 rw [hs] at this
 exact this
theorem WSt.setT (h : WSt w p g R N W t v b bt es) (x : Int) : WSt w p g R N (W.setCell ⟨g, 0, none⟩ (.int .i64 x)) x v b bt es := h.poke 0 _ x v b bt (fun _ _ _ => rfl)
theorem WSt.setV (h : WSt w p g R N W t v b bt es) (x : Int) : WSt w p g R N (W.setCell ⟨g, 1, none⟩ (.int .i64 x)) t x b bt es := h.poke 1 _ t x b bt (fun _ _ _ => rfl)
theorem WSt.setB (h : WSt w p g R N W t v b bt es) (x : Int) : WSt w p g R N (W.setCell ⟨g, 2, none⟩ (.int .i64 x)) t v x bt es := h.poke 2 _ t v x bt (fun _ _ _ => rfl)
theorem WSt.setBt (h : WSt w p g R N W t v b bt es) (x : Int) : WSt w p g R N (W.setCell ⟨g, 3, none⟩ (.int .i64 x)) t v b x es := h.poke 3 _ t v b x (fun _ _ _ => rfl)
theorem WSt.setE (h : WSt w p g R N W t v b bt es) {Y : World} {A A' : Option Addr} {m c m' c' : Nat} {es' : List Ent} {N' : Nat} (hk : Blk W g #[.int .i64 t, .int .i64 v, .int .i64 b, .int .i64 bt, .slice A m c] 26) (hO : Owns Y w.heap.size 58 2 (.slice A' m' c') (entR es'))
  (hA : AtS Y p) (hm : Mod w.heap.size p W Y) (hg : Y.heap[g]? = W.heap[g]?) (hR : Y.heap[R]? = W.heap[R]?) (hn : es'.length ≤ N') (hd : ∀ x ∈ es', x.data.size ≤ 1000) : WSt w p g R N' (Y.setCell ⟨g, 4, none⟩ (.slice A' m' c')) t v b bt es' := by
 have hkY : Blk Y g #[.int .i64 t, .int .i64 v, .int .i64 b, .int .i64 bt, .slice A m c] 26 := hg.trans hk
 have hb2 : Below w.heap.size Y (Y.setCell ⟨g, 4, none⟩ (.slice A' m' c')) := (Below.refl _ _).setCell (show w.heap.size ≤ g by have := h.o; omega) _
 exact ⟨⟨A', m', c', hkY.set 4 _, hO.other (hO.notBlk hkY (by decide)) _ _, ent_len hO⟩, (show Blk Y R _ _ from hR.trans h.r).other (by have := h.o; omega) _ _, hn, hd, hA.below hb2 h.o.1, (h.m.trans hm).trans (Mod.of_below hb2), h.o⟩
def lenAt (g : Nat) (W : World) : Nat := match W.cell? ⟨g, 4, none⟩ with | some (.slice _ n _) => n | _ => 0
theorem lenAt_is {A : Option Addr} {n c : Nat} (h : W.cell? ⟨g, 4, none⟩ = some (.slice A n c)) : lenAt g W = n := by unfold lenAt; rw [h]
theorem WSt.out (h : WSt w p g R N W t v b bt es) : ∃ A c, (W.cell? ⟨g, 0, none⟩ = some (.int .i64 t) ∧ W.cell? ⟨g, 1, none⟩ = some (.int .i64 v) ∧ W.cell? ⟨g, 2, none⟩ = some (.int .i64 b) ∧ W.cell? ⟨g, 3, none⟩ = some (.int .i64 bt) ∧ W.cell? ⟨g, 4, none⟩ = some (.slice A es.length c)) ∧ (∀ i, W.frozen? ⟨g, i, none⟩ = false) ∧
  Blk W g #[.int .i64 t, .int .i64 v, .int .i64 b, .int .i64 bt, .slice A es.length c] 26 ∧ Owns W w.heap.size 58 2 (.slice A es.length c) (entR es) := by
 obtain ⟨A, m, c, hk, hO, rfl⟩ := h.k
 exact ⟨A, c, ⟨hk.cell 0 _ rfl, hk.cell 1 _ rfl, hk.cell 2 _ rfl, hk.cell 3 _ rfl, hk.cell 4 _ rfl⟩, fun i => hk.free i, hk, hO⟩
end
def DrawnW (w : World) (p N : Nat) (e : Ending) (w' : World) : Prop := ∃ u x, e = .returned u ∧ WalO w' w.heap.size u x ∧ x.ents.length ≤ N ∧ (∀ y ∈ x.ents, y.data.size ≤ 1000) ∧ (-1000 ≤ x.term ∧ x.term ≤ 1000000) ∧ AtS w' p ∧ Mod w.heap.size p w w'
end Go.Proofs.Ytfmannphobjgpaa
namespace Go.Proofs.Ytfmannphobjgpaa
open Go.ChangeShapes Go.WideShapes Go.ChangeAt Go.RowKit Go.PlainAid
set_option linter.unusedVariables false
set_option maxRecDepth 20000 in
set_option maxHeartbeats 8000000 in
theorem wal_any (w : World) (p : Nat) (h : AtS w p) : Calls Try.prog 31 #[.pointer (some ⟨p, 0, none⟩)] w (DrawnW w p 62) := by
 have HP : Hid (p < w.heap.size) := h.lt
 have hal : Below w.heap.size w (w.alloc (.cells #[.int .i64 0, .int .i64 0, .int .i64 0, .int .i64 0, .slice none 0 0] 26)) := (Below.refl _ _).alloc (Nat.le_refl _) _
 have A0 : Hid (AtS (w.alloc (.cells #[.int .i64 0, .int .i64 0, .int .i64 0, .int .i64 0, .slice none 0 0] 26)) p) := h.below hal h.lt
 have M0 : Hid (Mod w.heap.size p w (w.alloc (.cells #[.int .i64 0, .int .i64 0, .int .i64 0, .int .i64 0, .slice none 0 0] 26))) := Mod.of_below hal
 have R0 : Hid (Blk (w.alloc (.cells #[.int .i64 0, .int .i64 0, .int .i64 0, .int .i64 0, .slice none 0 0] 26)) w.heap.size #[.int .i64 0, .int .i64 0, .int .i64 0, .int .i64 0, .slice none 0 0] 26) := Blk.new w _ _
 clear hal h
 go_enter Try.func31, Try.ntmps31
 go_wp2_with fail
 generalize w.alloc (.cells #[.int .i64 0, .int .i64 0, .int .i64 0, .int .i64 0, .slice none 0 0] 26) = w0 at *
 refine (belowS w0 p 8 (by omega) (by omega) A0.out).mono ?_
 rintro e w1 ⟨t, rfl, ⟨t0, t1⟩, hA, hm⟩
 have A1 : Hid (AtS w1 p) := hA
 have M1 : Hid (Mod w.heap.size p w w1) := M0.out.trans (hm.mono M0.out.size)
 have R1 : Hid (Blk w1 w.heap.size #[.int .i64 0, .int .i64 0, .int .i64 0, .int .i64 0, .slice none 0 0] 26) := R0.out.mod hm R0.out.lt (by have := HP.out; omega)
 clear hA hm A0 M0 R0
 go_wp2_with fail
 refine (belowS w1 p 6 (by omega) (by omega) A1.out).mono ?_
 rintro e w2 ⟨v, rfl, ⟨v0, v1⟩, hA, hm⟩
 have A2 : Hid (AtS w2 p) := hA
 have M2 : Hid (Mod w.heap.size p w w2) := M1.out.trans (hm.mono M1.out.size)
 have R2 : Hid (Blk w2 w.heap.size #[.int .i64 0, .int .i64 0, .int .i64 0, .int .i64 0, .slice none 0 0] 26) := R1.out.mod hm R1.out.lt (by have := HP.out; omega)
 have gv : IntKind.i64.wrap (v - 1) = v - 1 := by rw [IntKind.wrap_i64]; omega
 clear hA hm A1 M1 R1
 have hS0 : WSt w p w2.heap.size w.heap.size 7 (w2.alloc (.cells #[.int .i64 t, .int .i64 (v - 1), .int .i64 0, .int .i64 0, .slice none 0 0] 26)) t (v - 1) 0 0 [] :=
  ⟨⟨none, 0, 0, Blk.new w2 _ _, Owns.nil _ _ _ _, rfl⟩, R2.out.alloc _, by simp, fun x hx => (by cases hx), A2.out.below ((Below.refl w2.heap.size w2).alloc (Nat.le_refl _) _) A2.out.lt, M2.out.alloc M2.out.size _, HP.out, Nat.le_refl _, R2.out.lt⟩
 have S0 : Hid (WSt w p w2.heap.size w.heap.size 7 (w2.alloc (.cells #[.int .i64 t, .int .i64 (v - 1), .int .i64 0, .int .i64 0, .slice none 0 0] 26)) t (v - 1) 0 0 []) := hS0
 clear hS0
 go_upto_region 2 with fail
 generalize w2.alloc (.cells #[.int .i64 t, .int .i64 (v - 1), .int .i64 0, .int .i64 0, .slice none 0 0] 26) = w3 at *
 generalize w2.heap.size = g at *
 generalize v - 1 = vv at *
 obtain ⟨A3, c3, ⟨e0, e1, e2, e3, e4⟩, hf, -, -⟩ := S0.out.out
 go_cut [16] from 10 to 16 (fun s16 wc => ∃ o : Bool, s16 = .bool o ∧ (o = true → 0 < t) ∧ WSt w p g w.heap.size 7 wc t vv 0 0 [])
 case first =>
  by_cases ht : 0 < t
  ·have dt : decide (0 < t) = true := decide_eq_true ht
   go_wp2_with fail
   refine (once_some w3 p 2 (by omega) S0.out.a).mono ?_
   rintro e w4 ⟨o, rfl, hA, hm⟩
   have S4 : Hid (WSt w p g w.heap.size 7 w4 t vv 0 0 []) := S0.out.draw hA hm
   clear hA hm
   go_wp2_with fail
   go_meet
   exact ⟨o, rfl, fun _ => ht, S4.out⟩
  ·have dt : decide (0 < t) = false := decide_eq_false ht
   go_wp2_with fail
   go_meet
   exact ⟨false, rfl, fun h => (by cases h), S0.out⟩
 case rest =>
  obtain ⟨o, rfl, ho, hS⟩ := hcut
  have S1 : Hid (WSt w p g w.heap.size 7 wc t vv 0 0 []) := hS
  clear hS S0 e0 e1 e2 e3 e4 hf A2 M2 R2 gv
  generalize wc = w4 at *
  go_upto_if 16 with fail
  go_cut [26] from 17 to 26 (fun s26 wc => ∃ b bt : Int, (0 ≤ b ∧ b ≤ 100) ∧ (0 ≤ bt ∧ bt ≤ 100) ∧ WSt w p g w.heap.size 7 wc t vv b bt [])
  case first =>
   cases o with
   | false =>
    go_wp2_with fail
    go_meet
    exact ⟨0, 0, by omega, by omega, S1.out⟩
   | true =>
    have ht := ho rfl
    clear ho
    go_wp2_with fail
    refine (belowS w4 p 9 (by omega) (by omega) S1.out.a).mono ?_
    rintro e w5 ⟨x, rfl, ⟨x0, x1⟩, hA, hm⟩
    have S5 : Hid (WSt w p g w.heap.size 7 w5 t vv 0 0 []) := S1.out.draw hA hm
    have S6 : Hid (WSt w p g w.heap.size 7 (w5.setCell ⟨g, 2, none⟩ (.int .i64 (1 + x))) t vv (1 + x) 0 []) := S5.out.setB (1 + x)
    obtain ⟨A5, c5, ⟨k0, k1, k2, k3, k4⟩, kf, -, -⟩ := S5.out.out
    obtain ⟨A6, c6, ⟨l0, l1, l2, l3, l4⟩, lf, -, -⟩ := S6.out.out
    have gx : IntKind.i64.wrap (1 + x) = 1 + x := by rw [IntKind.wrap_i64]; omega
    clear hA hm S1
    have f2 := kf 2
    go_wp2_with fail
    generalize w5.setCell ⟨g, 2, none⟩ (.int .i64 (1 + x)) = w6 at *
    refine (belowS w6 p t ht (by omega) S6.out.a).mono ?_
    rintro e w7 ⟨y, rfl, ⟨y0, y1⟩, hA, hm⟩
    have S7 : Hid (WSt w p g w.heap.size 7 w7 t vv (1 + x) 0 []) := S6.out.draw hA hm
    have S8 : Hid (WSt w p g w.heap.size 7 (w7.setCell ⟨g, 3, none⟩ (.int .i64 (1 + y))) t vv (1 + x) (1 + y) []) := S7.out.setBt (1 + y)
    obtain ⟨A7, c7, ⟨n0, n1, n2, n3, n4⟩, nf, -, -⟩ := S7.out.out
    have gy : IntKind.i64.wrap (1 + y) = 1 + y := by rw [IntKind.wrap_i64]; omega
    have f3 := nf 3
    clear hA hm
    go_wp2_with fail
    go_meet
    exact ⟨1 + x, 1 + y, by omega, by omega, S8.out⟩
  case rest =>
   obtain ⟨b, bt, hb, hbt, hS⟩ := hcut
   have S2 : Hid (WSt w p g w.heap.size 7 wc t vv b bt []) := hS
   obtain ⟨A2, c2, ⟨e0, e1, e2, e3, e4⟩, hf, hk2, -⟩ := S2.out.out
   have K2 : Hid (Blk wc g #[.int .i64 t, .int .i64 vv, .int .i64 b, .int .i64 bt, .slice A2 ([] : List Ent).length c2] 26) := hk2
   clear hS S1 hk2 ho
   generalize wc = w8 at *
   go_wp2_with fail
   refine (entries_any w8 p bt t (by omega) (by omega) S2.out.a).mono ?_
   rintro e w9 ⟨ue, es, rfl, hO, hn, hd, hA, hm⟩
   obtain ⟨Ae, me, ce, rfl⟩ := hO.shape
   have S3 : Hid (WSt w p g w.heap.size 7 (w9.setCell ⟨g, 4, none⟩ (.slice Ae me ce)) t vv b bt es) :=
    S2.out.setE K2.out (hO.mono S2.out.m.size) hA (hm.mono S2.out.m.size) (hm.block g K2.out.lt (by have := S2.out.o; omega)) (hm.block _ S2.out.r.lt (by have := S2.out.o; omega)) hn hd
   have hkg : Blk w9 g #[.int .i64 t, .int .i64 vv, .int .i64 b, .int .i64 bt, .slice A2 ([] : List Ent).length c2] 26 := (hm.block g K2.out.lt (by have := S2.out.o; omega)).trans K2.out
   have m4 := hkg.cell 4 _ rfl
   have f4 := hkg.free 4
   clear hA hm hO hn hd hkg e0 e1 e2 e3 e4 hf
   go_wp2_with fail
   generalize w9.setCell ⟨g, 4, none⟩ (.slice Ae me ce) = wa at *
   refine (once_some wa p 25 (by omega) S3.out.a).mono ?_
   rintro e wb ⟨o2, rfl, hA, hm⟩
   have S4 : Hid (WSt w p g w.heap.size 7 wb t vv b bt es) := S3.out.draw hA hm
   clear hA hm S3 m4 f4 S2 K2
   go_upto_if 35 with fail
   go_cut [46] from 36 to 46 (fun s46 wc => ∃ b' bt' : Int, WSt w p g w.heap.size 7 wc t vv b' bt' es)
   case first =>
    obtain ⟨A4, c4, ⟨k0, k1, k2, k3, k4⟩, kf, -, -⟩ := S4.out.out
    cases o2 with
    | false =>
     go_wp2_with fail
     go_meet
     exact ⟨b, bt, S4.out⟩
    | true =>
     have hes := S4.out.n
     have ges : IntKind.i64.wrap (100000 - (es.length : Int)) = 100000 - (es.length : Int) := by rw [IntKind.wrap_i64]; omega
     have Q0 : Hid (wb.drew.cell? ⟨g, 4, none⟩ = some (.slice A4 es.length c4)) := k4
     have cB := belowS wb.drew p 2 (by omega) (by omega) S4.out.drew.a
     generalize hnl : es.length = nl at *
     clear hnl k0 k1 k2 k3 k4 kf
     go_wp2_with fail
     refine wp_region_until (fun w' => w'.cell? ⟨g, 4, none⟩ = some (.slice A4 nl c4)) (fun i => i == 8) 9 (by rfl) (by kernel_rfl) ?_
     refine until_pure 0 (v := ?_) (by rfl) (by kernel_rfl) (by exact fun _ _ _ h => h) (by rfl) ?_ ?_
     rotate_left
     ·intro w
      go_simp
      try with_reducible rfl
     try simp only [Act.put, setIfInBounds_toArray, set_cons_zero, set_cons_succ]
     refine until_take 1 (v := ?_) (by rfl) (by kernel_rfl) (by exact fun _ _ _ h => h) (by rfl) ?_ Q0.out ?_
     rotate_left
     ·intro w hSw
      try dsimp only at hSw
      go_simp
      try with_reducible rfl
     try simp only [Act.put, setIfInBounds_toArray, set_cons_zero, set_cons_succ]
     refine until_pure 2 (v := ?_) (by rfl) (by kernel_rfl) (by exact fun _ _ _ h => h) (by rfl) ?_ ?_
     rotate_left
     ·intro w
      go_simp
      try with_reducible rfl
     try simp only [Act.put, setIfInBounds_toArray, set_cons_zero, set_cons_succ]
     refine until_pure 3 (v := ?_) (by rfl) (by kernel_rfl) (by exact fun _ _ _ h => h) (by rfl) ?_ ?_
     rotate_left
     ·intro w
      go_simp
      try with_reducible rfl
     try simp only [Act.put, setIfInBounds_toArray, set_cons_zero, set_cons_succ]
     refine until_pure 4 (v := ?_) (by rfl) (by kernel_rfl) (by exact fun _ _ _ h => h) (by rfl) ?_ ?_
     rotate_left
     ·intro w
      go_simp
      try with_reducible rfl
     try simp only [Act.put, setIfInBounds_toArray, set_cons_zero, set_cons_succ]
     refine until_one 5 (by rfl) (by kernel_rfl) (fun K hK => ?_)
     go_simp
     refine cB.mono ?_
     rintro e wd ⟨y, rfl, ⟨y0, y1⟩, hA, hm⟩
     have S5 : Hid (WSt w p g w.heap.size 7 wd t vv b bt es) := S4.out.drew.draw hA hm
     obtain ⟨A4', c4', -, -, hk4, -⟩ := S4.out.drew.out
     have k4' : wd.cell? ⟨g, 4, none⟩ = some (.slice A4 nl c4) := (World.cell?_of_block (w := wb.drew) (hm.block g hk4.lt (by have := S4.out.o; omega))).trans Q0.out
     have S6 : Hid (WSt w p g w.heap.size 7 (wd.setCell ⟨g, 2, none⟩ (.int .i64 (100000 - (nl : Int) + y))) t vv (100000 - (nl : Int) + y) bt es) := S5.out.setB _
     have S7 : Hid (WSt w p g w.heap.size 7 ((wd.setCell ⟨g, 2, none⟩ (.int .i64 (100000 - (nl : Int) + y))).setCell ⟨g, 3, none⟩ (.int .i64 t)) t vv (100000 - (nl : Int) + y) t es) := S6.out.setBt t
     obtain ⟨A5, c5, ⟨k0, k1, k2, k3, k4⟩, kf, -, -⟩ := S5.out.out
     obtain ⟨A6, c6, ⟨l0, l1, l2, l3, l4⟩, lf, -, -⟩ := S6.out.out
     have gy : IntKind.i64.wrap (100000 - (nl : Int) + y) = 100000 - (nl : Int) + y := by rw [IntKind.wrap_i64]; omega
     have f2 := kf 2
     have f3 := lf 3
     clear hA hm cB hk4 k4 l4 kf lf
     go_wp2_with fail
     refine hK.out _ _ (fun _ _ => k4') ?_
     clear hK K
     try simp only [Act.put, setIfInBounds_toArray, set_cons_zero, set_cons_succ]
     refine until_pure 6 (v := ?_) (by rfl) (by kernel_rfl) (by exact fun _ _ _ h => h) (by rfl) ?_ ?_
     rotate_left
     ·intro w
      go_simp
      try with_reducible rfl
     try simp only [Act.put, setIfInBounds_toArray, set_cons_zero, set_cons_succ]
     refine until_pure 7 (v := ?_) (by rfl) (by kernel_rfl) (by exact fun _ _ _ h => h) (by rfl) ?_ ?_
     rotate_left
     ·intro w
      go_simp
      try with_reducible rfl
     try simp only [Act.put, setIfInBounds_toArray, set_cons_zero, set_cons_succ]
     refine until_one 8 (by rfl) (by kernel_rfl) (fun K hK => ?_)
     go_simp
     refine hK.out _ _ (fun h => by cases h) ?_
     clear hK K
     try simp only [Act.put, setIfInBounds_toArray, set_cons_zero, set_cons_succ]
     refine until_done (by kernel_rfl) ?_ _
     go_wp2_with fail
     go_meet
     exact ⟨_, _, S7.out⟩
   case rest =>
    obtain ⟨b', bt', hS⟩ := hcut
    have S5 : Hid (WSt w p g w.heap.size 7 wc t vv b' bt' es) := hS
    clear hS S4
    generalize wc = we at *
    go_wp2_with fail
    refine (once_some we p 25 (by omega) S5.out.a).mono ?_
    rintro e wf ⟨o3, rfl, hA, hm⟩
    have S6 : Hid (WSt w p g w.heap.size 62 wf t vv b' bt' es) := (S5.out.draw hA hm).more (by omega)
    clear hA hm S5
    go_upto_if 48 with fail
    go_cut [68] from 49 to 68 (fun s68 wc => ∃ es' : List Ent, WSt w p g w.heap.size 62 wc t vv b' bt' es')
    case first =>
     cases o3 with
     | false =>
      go_wp2_with fail
      go_meet
      exact ⟨es, S6.out⟩
     | true =>
      go_wp2_with fail
      go_loopw [68] (fun s68 wr => ∃ es' : List Ent, WSt w p g w.heap.size 62 wr t vv b' bt' es') (fun _ wr => 100 - lenAt g wr)
      case atStart => exact ⟨es, S6.out⟩
      case round =>
       obtain ⟨es', hS⟩ := hrel
       have SR : Hid (WSt w p g w.heap.size 62 wr t vv b' bt' es') := hS
       clear hS
       obtain ⟨A7, c7, ⟨k0, k1, k2, k3, k4⟩, kf, hk7, hO7⟩ := SR.out.out
       have HL : Hid (lenAt g wr = es'.length) := lenAt_is k4
       by_cases ht : 0 < t
       ·have dt : decide (0 < t) = true := decide_eq_true ht
        have Q0 : Hid (wr.drew.cell? ⟨g, 0, none⟩ = some (.int .i64 t) ∧ wr.drew.cell? ⟨g, 4, none⟩ = some (.slice A7 es'.length c7)) := ⟨k0, k4⟩
        have cB := belowS wr.drew p 2 (by omega) (by omega) SR.out.drew.a
        have hn7 := SR.out.n
        generalize hnl : es'.length = nl at *
        have HNl : Hid (es'.length = nl) := hnl
        clear hnl k0 k1 k2 k3 k4 kf
        go_wp2_with fail
        refine wp_region_until (fun w' => w'.cell? ⟨g, 0, none⟩ = some (.int .i64 t) ∧ w'.cell? ⟨g, 4, none⟩ = some (.slice A7 nl c7)) (fun _ => false) 12 (by rfl) (by kernel_rfl) ?_
        refine until_pure 0 (v := ?_) (by rfl) (by kernel_rfl) (by exact fun _ _ _ h => h) (by rfl) ?_ ?_
        rotate_left
        ·intro w
         go_simp
         try with_reducible rfl
        try simp only [Act.put, setIfInBounds_toArray, set_cons_zero, set_cons_succ]
        refine until_take 1 (v := ?_) (by rfl) (by kernel_rfl) (by exact fun _ _ _ h => h) (by rfl) ?_ Q0.out ?_
        rotate_left
        ·intro w hSw
         try dsimp only at hSw
         go_simp
         try with_reducible rfl
        try simp only [Act.put, setIfInBounds_toArray, set_cons_zero, set_cons_succ]
        refine until_pure 2 (v := ?_) (by rfl) (by kernel_rfl) (by exact fun _ _ _ h => h) (by rfl) ?_ ?_
        rotate_left
        ·intro w
         go_simp
         try with_reducible rfl
        try simp only [Act.put, setIfInBounds_toArray, set_cons_zero, set_cons_succ]
        refine until_pure 3 (v := ?_) (by rfl) (by kernel_rfl) (by exact fun _ _ _ h => h) (by rfl) ?_ ?_
        rotate_left
        ·intro w
         go_simp
         try with_reducible rfl
        try simp only [Act.put, setIfInBounds_toArray, set_cons_zero, set_cons_succ]
        refine until_pure 4 (v := ?_) (by rfl) (by kernel_rfl) (by exact fun _ _ _ h => h) (by rfl) ?_ ?_
        rotate_left
        ·intro w
         go_simp
         try with_reducible rfl
        try simp only [Act.put, setIfInBounds_toArray, set_cons_zero, set_cons_succ]
        refine until_take 5 (v := ?_) (by rfl) (by kernel_rfl) (by exact fun _ _ _ h => h) (by rfl) ?_ Q0.out ?_
        rotate_left
        ·intro w hSw
         try dsimp only at hSw
         go_simp
         try with_reducible rfl
        try simp only [Act.put, setIfInBounds_toArray, set_cons_zero, set_cons_succ]
        refine until_pure 6 (v := ?_) (by rfl) (by kernel_rfl) (by exact fun _ _ _ h => h) (by rfl) ?_ ?_
        rotate_left
        ·intro w
         go_simp
         try with_reducible rfl
        try simp only [Act.put, setIfInBounds_toArray, set_cons_zero, set_cons_succ]
        refine until_pure 7 (v := ?_) (by rfl) (by kernel_rfl) (by exact fun _ _ _ h => h) (by rfl) ?_ ?_
        rotate_left
        ·intro w
         go_simp
         try with_reducible rfl
        try simp only [Act.put, setIfInBounds_toArray, set_cons_zero, set_cons_succ]
        refine until_one 8 (by rfl) (by kernel_rfl) (fun K hK => ?_)
        go_simp
        refine cB.mono ?_
        rintro e wd ⟨y, rfl, ⟨y0, y1⟩, hA, hm⟩
        have S8 : Hid (WSt w p g w.heap.size 62 wd t vv b' bt' es') := SR.out.drew.draw hA hm
        have hkd : Blk wd g #[.int .i64 t, .int .i64 vv, .int .i64 b', .int .i64 bt', .slice A7 nl c7] 26 := (hm.block g hk7.lt (by have := SR.out.o; omega)).trans hk7
        have hOd : Owns wd w.heap.size 58 2 (.slice A7 nl c7) (entR es') := (hO7.kept fun _ _ _ => rfl : Owns wr.drew w.heap.size 58 2 (.slice A7 nl c7) (entR es')).mod hm SR.out.o.1 (Nat.le_refl _)
        have KD : Hid (Blk wd g #[.int .i64 t, .int .i64 vv, .int .i64 b', .int .i64 bt', .slice A7 nl c7] 26) := hkd
        have OD : Hid (Owns wd w.heap.size 58 2 (.slice A7 nl c7) (entR es')) := hOd
        have d0 := hkd.cell 0 _ rfl
        have d4 := hkd.cell 4 _ rfl
        clear hA hm cB hkd hOd hk7 hO7
        go_wp2_with fail
        refine hK.out _ _ (fun _ _ => ⟨d0, d4⟩) ?_
        clear hK K
        have gy : IntKind.i64.wrap (60 + y) = 60 + y := by rw [IntKind.wrap_i64]; omega
        by_cases hlt : (nl : Int) < 60 + y
        ·have dlt : decide ((nl : Int) < 60 + y) = true := decide_eq_true hlt
         try simp only [Act.put, setIfInBounds_toArray, set_cons_zero, set_cons_succ]
         refine until_pure 9 (v := ?_) (by rfl) (by kernel_rfl) (by exact fun _ _ _ h => h) (by rfl) ?_ ?_
         rotate_left
         ·intro w
          go_simp
          try with_reducible rfl
         try simp only [Act.put, setIfInBounds_toArray, set_cons_zero, set_cons_succ]
         refine until_pure 10 (v := ?_) (by rfl) (by kernel_rfl) (by exact fun _ _ _ h => h) (by rfl) ?_ ?_
         rotate_left
         ·intro w
          go_simp
          try with_reducible rfl
         try simp only [Act.put, setIfInBounds_toArray, set_cons_zero, set_cons_succ]
         refine until_pure 11 (v := ?_) (by rfl) (by kernel_rfl) (by exact fun _ _ _ h => h) (by rfl) ?_ ?_
         rotate_left
         ·intro w
          go_simp
          try with_reducible rfl
         try simp only [Act.put, setIfInBounds_toArray, set_cons_zero, set_cons_succ]
         refine until_done (by kernel_rfl) ?_ _
         have hzz : w.heap.size ≤ wd.heap.size := S8.out.m.size
         have l6 : Hid ((entR es').length ≤ 2097152) := by unfold Hid; rw [entR_length, HNl.out]; omega
         have f4 := KD.out.free 4
         go_wp2_with (at_builtin; refine Shut.out ?_)
         unfold Shut
         refine wpList_append_row (w := wd) rfl (.tmp 62) (.tmp 66) 24 58 (.agg #[.int .i64 0, .string ⟨#[]⟩]) 2 24 rfl Try.underlying24 Try.infoEntB rfl (by omega) w.heap.size (.slice A7 nl c7) (entR es') rfl OD.out [.int .i64 t, .string ⟨#[]⟩] rfl (by intro y hy; simp at hy; rcases hy with rfl | rfl <;> rfl) rfl l6.out (by omega) hzz ?_
         intro v' w7 hO7 hb7 hk7 _
         obtain ⟨A', m', c', rfl⟩ := hO7.shape
         have hO8 : Owns w7 w.heap.size 58 2 (.slice A' m' c') (entR (es' ++ [⟨t, ⟨#[]⟩⟩])) := by unfold entR; rw [List.map_append]; exact hO7
         have hg7 : w7.heap[g]? = wd.heap[g]? := hk7 g KD.out.lt (OD.out.notBlk KD.out (by decide))
         have hR7 : w7.heap[w.heap.size]? = wd.heap[w.heap.size]? := hk7 _ S8.out.r.lt (OD.out.notBlk S8.out.r (by decide))
         have S9 : Hid (WSt w p g w.heap.size 62 (w7.setCell ⟨g, 4, none⟩ (.slice A' m' c')) t vv b' bt' (es' ++ [⟨t, ⟨#[]⟩⟩])) :=
          S8.out.setE KD.out hO8 (S8.out.a.below hb7 S8.out.o.1) (Mod.of_below hb7) hg7 hR7 (by rw [List.length_append, HNl.out]; simp; omega) (fun x hx => by
           rcases List.mem_append.1 hx with hx | hx
           ·exact S8.out.d x hx
           ·rw [List.mem_singleton.1 hx]; exact Nat.zero_le _)
         have hk8 : Blk w7 g #[.int .i64 t, .int .i64 vv, .int .i64 b', .int .i64 bt', .slice A7 nl c7] 26 := hg7.trans KD.out
         have m4 := hk8.cell 4 _ rfl
         have mf := hk8.free 4
         have hl9 := S9.out.out
         obtain ⟨A9, c9, ⟨-, -, -, -, z4⟩, -, -, -⟩ := hl9
         have HL9 : Hid (lenAt g (w7.setCell ⟨g, 4, none⟩ (.slice A' m' c')) = nl + 1) := by unfold Hid; rw [lenAt_is z4, List.length_append, HNl.out]; rfl
         clear hO7 hb7 hk7 hO8 hg7 hR7 hk8 z4
         go_wp2_with fail
         go_roundw
         case rel => exact ⟨_, S9.out⟩
         case measure => have := HL9.out; have := HL.out; omega
        ·have dlt : decide ((nl : Int) < 60 + y) = false := decide_eq_false hlt
         try simp only [Act.put, setIfInBounds_toArray, set_cons_zero, set_cons_succ]
         refine until_pure 9 (v := ?_) (by rfl) (by kernel_rfl) (by exact fun _ _ _ h => h) (by rfl) ?_ ?_
         rotate_left
         ·intro w
          go_simp
          try with_reducible rfl
         try simp only [Act.put, setIfInBounds_toArray, set_cons_zero, set_cons_succ]
         refine until_pure 10 (v := ?_) (by rfl) (by kernel_rfl) (by exact fun _ _ _ h => h) (by rfl) ?_ ?_
         rotate_left
         ·intro w
          go_simp
          try with_reducible rfl
         try simp only [Act.put, setIfInBounds_toArray, set_cons_zero, set_cons_succ]
         refine until_pure 11 (v := ?_) (by rfl) (by kernel_rfl) (by exact fun _ _ _ h => h) (by rfl) ?_ ?_
         rotate_left
         ·intro w
          go_simp
          try with_reducible rfl
         try simp only [Act.put, setIfInBounds_toArray, set_cons_zero, set_cons_succ]
         refine until_done (by kernel_rfl) ?_ _
         go_wp2_with fail
         go_meet
         exact ⟨es', S8.out⟩
       ·have dt : decide (0 < t) = false := decide_eq_false ht
        have Q0 : Hid (wr.drew.cell? ⟨g, 0, none⟩ = some (.int .i64 t)) := k0
        clear k0 k1 k2 k3 k4 kf hk7 hO7
        go_wp2_with fail
        refine wp_region_until (fun w' => w'.cell? ⟨g, 0, none⟩ = some (.int .i64 t)) (fun _ => false) 12 (by rfl) (by kernel_rfl) ?_
        refine until_pure 0 (v := ?_) (by rfl) (by kernel_rfl) (by exact fun _ _ _ h => h) (by rfl) ?_ ?_
        rotate_left
        ·intro w
         go_simp
         try with_reducible rfl
        try simp only [Act.put, setIfInBounds_toArray, set_cons_zero, set_cons_succ]
        refine until_take 1 (v := ?_) (by rfl) (by kernel_rfl) (by exact fun _ _ _ h => h) (by rfl) ?_ Q0.out ?_
        rotate_left
        ·intro w hSw
         try dsimp only at hSw
         go_simp
         try with_reducible rfl
        try simp only [Act.put, setIfInBounds_toArray, set_cons_zero, set_cons_succ]
        refine until_pure 2 (v := ?_) (by rfl) (by kernel_rfl) (by exact fun _ _ _ h => h) (by rfl) ?_ ?_
        rotate_left
        ·intro w
         go_simp
         try with_reducible rfl
        try simp only [Act.put, setIfInBounds_toArray, set_cons_zero, set_cons_succ]
        refine until_pure 3 (v := ?_) (by rfl) (by kernel_rfl) (by exact fun _ _ _ h => h) (by rfl) ?_ ?_
        rotate_left
        ·intro w
         go_simp
         try with_reducible rfl
        try simp only [Act.put, setIfInBounds_toArray, set_cons_zero, set_cons_succ]
        refine until_skip 4 (by rfl) (by kernel_rfl) (by exact fun _ _ _ h => h) (by rfl) ?_
        try simp only [Act.put, setIfInBounds_toArray, set_cons_zero, set_cons_succ]
        refine until_skip 5 (by rfl) (by kernel_rfl) (by exact fun _ _ _ h => h) (by rfl) ?_
        try simp only [Act.put, setIfInBounds_toArray, set_cons_zero, set_cons_succ]
        refine until_skip 6 (by rfl) (by kernel_rfl) (by exact fun _ _ _ h => h) (by rfl) ?_
        try simp only [Act.put, setIfInBounds_toArray, set_cons_zero, set_cons_succ]
        refine until_skip 7 (by rfl) (by kernel_rfl) (by exact fun _ _ _ h => h) (by rfl) ?_
        try simp only [Act.put, setIfInBounds_toArray, set_cons_zero, set_cons_succ]
        refine until_skip 8 (by rfl) (by kernel_rfl) (by exact fun _ _ _ h => h) (by rfl) ?_
        try simp only [Act.put, setIfInBounds_toArray, set_cons_zero, set_cons_succ]
        refine until_skip 9 (by rfl) (by kernel_rfl) (by exact fun _ _ _ h => h) (by rfl) ?_
        try simp only [Act.put, setIfInBounds_toArray, set_cons_zero, set_cons_succ]
        refine until_skip 10 (by rfl) (by kernel_rfl) (by exact fun _ _ _ h => h) (by rfl) ?_
        try simp only [Act.put, setIfInBounds_toArray, set_cons_zero, set_cons_succ]
        refine until_pure 11 (v := ?_) (by rfl) (by kernel_rfl) (by exact fun _ _ _ h => h) (by rfl) ?_ ?_
        rotate_left
        ·intro w
         go_simp
         try with_reducible rfl
        try simp only [Act.put, setIfInBounds_toArray, set_cons_zero, set_cons_succ]
        refine until_done (by kernel_rfl) ?_ _
        go_wp2_with fail
        go_meet
        exact ⟨es', SR.out.drew⟩
    case rest =>
     obtain ⟨es', hS⟩ := hcut
     have S7 : Hid (WSt w p g w.heap.size 62 wc t vv b' bt' es') := hS
     clear hS S6
     generalize wc = wg at *
     obtain ⟨AZ, cZ, ⟨k0, k1, k2, k3, k4⟩, kf, hkZ, hOZ⟩ := S7.out.out
     have r0 := S7.out.r
     have r1 := r0.set 0 (.int .i64 t)
     have r2 := r1.set 1 (.int .i64 vv)
     have r3 := r2.set 2 (.int .i64 b')
     have r4 := r3.set 3 (.int .i64 bt')
     have r5 := r4.set 4 (.slice AZ es'.length cZ)
     have y0 := r0.cell 0 _ rfl
     have y1 := r1.cell 1 _ rfl
     have y2 := r2.cell 2 _ rfl
     have y3 := r3.cell 3 _ rfl
     have y4 := r4.cell 4 _ rfl
     have f0 := r0.free 0
     have f1 := r1.free 1
     have f2 := r2.free 2
     have f3 := r3.free 3
     have f4 := r4.free 4
     have x0 := r5.cell 0 (.int .i64 t) rfl
     have x1 := r5.cell 1 (.int .i64 vv) rfl
     have x2 := r5.cell 2 (.int .i64 b') rfl
     have x3 := r5.cell 3 (.int .i64 bt') rfl
     have x4 := r5.cell 4 (.slice AZ es'.length cZ) rfl
     have hne := hOZ.notBlk r0 (by decide)
     have OF : Hid (Owns (((((wg.setCell ⟨w.heap.size, 0, none⟩ (.int .i64 t)).setCell ⟨w.heap.size, 1, none⟩ (.int .i64 vv)).setCell ⟨w.heap.size, 2, none⟩ (.int .i64 b')).setCell ⟨w.heap.size, 3, none⟩ (.int .i64 bt')).setCell ⟨w.heap.size, 4, none⟩ (.slice AZ es'.length cZ)) w.heap.size 58 2 (.slice AZ es'.length cZ) (entR es')) := ((((hOZ.other hne _ _).other hne _ _).other hne _ _).other hne _ _).other hne _ _
     have BF : Hid (Below w.heap.size wg (((((wg.setCell ⟨w.heap.size, 0, none⟩ (.int .i64 t)).setCell ⟨w.heap.size, 1, none⟩ (.int .i64 vv)).setCell ⟨w.heap.size, 2, none⟩ (.int .i64 b')).setCell ⟨w.heap.size, 3, none⟩ (.int .i64 bt')).setCell ⟨w.heap.size, 4, none⟩ (.slice AZ es'.length cZ))) := (((((Below.refl w.heap.size wg).setCell (show w.heap.size ≤ w.heap.size from S7.out.o.2.1) _).setCell (show w.heap.size ≤ w.heap.size from S7.out.o.2.1) _).setCell (show w.heap.size ≤ w.heap.size from S7.out.o.2.1) _).setCell (show w.heap.size ≤ w.heap.size from S7.out.o.2.1) _).setCell (show w.heap.size ≤ w.heap.size from S7.out.o.2.1) _
     have AF : Hid (AtS (((((wg.setCell ⟨w.heap.size, 0, none⟩ (.int .i64 t)).setCell ⟨w.heap.size, 1, none⟩ (.int .i64 vv)).setCell ⟨w.heap.size, 2, none⟩ (.int .i64 b')).setCell ⟨w.heap.size, 3, none⟩ (.int .i64 bt')).setCell ⟨w.heap.size, 4, none⟩ (.slice AZ es'.length cZ)) p) := S7.out.a.below BF.out S7.out.o.1
     have MF : Hid (Mod w.heap.size p w (((((wg.setCell ⟨w.heap.size, 0, none⟩ (.int .i64 t)).setCell ⟨w.heap.size, 1, none⟩ (.int .i64 vv)).setCell ⟨w.heap.size, 2, none⟩ (.int .i64 b')).setCell ⟨w.heap.size, 3, none⟩ (.int .i64 bt')).setCell ⟨w.heap.size, 4, none⟩ (.slice AZ es'.length cZ))) := S7.out.m.trans (Mod.of_below BF.out)
     clear r0 r1 r2 r3 r4 r5 hkZ hOZ hne kf
     go_wp2_with fail
     exact bodyPost_ret (v := .agg #[.int .i64 t, .int .i64 vv, .int .i64 b', .int .i64 bt', .slice AZ es'.length cZ]) (by simp [results, Try.f31, go_sem, x0, x1, x2, x3, x4]) rfl ⟨_, ⟨t, vv, b', bt', es'⟩, rfl, ⟨_, rfl, OF.out⟩, S7.out.n, S7.out.d, by constructor <;> (show _ ≤ _) <;> dsimp only <;> omega, AF.out, MF.out⟩
end Go.Proofs.Ytfmannphobjgpaa
