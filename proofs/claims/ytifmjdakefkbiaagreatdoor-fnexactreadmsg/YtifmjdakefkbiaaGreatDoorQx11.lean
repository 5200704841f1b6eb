/- MgTm MgRp WkEq StrAid StrLaw WkMk WkHd MgLaw LawReadMsg -/
import Derived.Test.YtifmjdakefkbiaaGreatDoorRows
import Derived.Test.YtifmjdakefkbiaaGreatDoorQx10
import Derived.Laws.StructEq
import Derived.Laws.DeepStrings4
import Derived.Deep.Cut
import Derived.Deep.CutRange
import Derived.Handy
import Derived.Test.YtifmjdakefkbiaaGreatDoorQx2
import Derived.Deep.RegionWith
import Derived.Test.YtifmjdakefkbiaaGreatDoorQx0
import Derived.WalkKit
import Derived.ProofKit
import Derived.Laws.OwnMore
import Derived.Below
import Derived.OwnWalk
import Derived.WalkSmall
import Derived.OpenShut
import Derived.WalkLawsBesides
import Derived.Outline
import Derived.BigQuiet
import Derived.Deep.QuietTactic
import Derived.Test.YtifmjdakefkbiaaGreatDoorQt0
import Derived.Test.YtifmjdakefkbiaaGreatDoorQt1
import Derived.Test.YtifmjdakefkbiaaGreatDoorQt2
import Derived.Test.YtifmjdakefkbiaaGreatDoorQt3
import Derived.Test.YtifmjdakefkbiaaGreatDoorQt4
import Derived.Test.YtifmjdakefkbiaaGreatDoorQt5
import Derived.Test.YtifmjdakefkbiaaGreatDoorQt6
import Derived.Test.YtifmjdakefkbiaaGreatDoorQt7
import Derived.Test.YtifmjdakefkbiaaGreatDoorQt8
import Derived.Test.YtifmjdakefkbiaaGreatDoorQt9
import Derived.Test.YtifmjdakefkbiaaGreatDoorQt10
import Derived.Test.YtifmjdakefkbiaaGreatDoorQt11
import Derived.Test.YtifmjdakefkbiaaGreatDoorQt12
import Derived.Test.YtifmjdakefkbiaaGreatDoorQt13
namespace Go.Proofs.YtifmjdakefkbiaaGreatDoor
open Go.ChangeShapes Go.WideShapes Go.ChangeAt Go.RowKit Go.PlainAid
set_option linter.unusedVariables false
end Go.Proofs.YtifmjdakefkbiaaGreatDoor
namespace Go.Proofs.YtifmjdakefkbiaaGreatDoor
open Go.ChangeShapes Go.WideShapes Go.ChangeAt Go.RowKit Go.PlainAid
set_option linter.unusedVariables false
end Go.Proofs.YtifmjdakefkbiaaGreatDoor
namespace Go.Proofs.YtifmjdakefkbiaaGreatDoor
open Go.ChangeShapes Go.WideShapes Go.ChangeAt Go.RowKit Go.PlainAid
set_option linter.unusedVariables false
set_option maxHeartbeats 400000 in
theorem eqEntry (x : Ent) (w : World) : Calls Tryz.prog 106 #[vEnt x, vEnt x] w fun e w' => e = .returned (.bool true) ∧ Below w.heap.size w w' := by
 unfold vEnt
 go_enter Tryz.func106, Tryz.ntmps106
 go_wp2
 go_ret
 exact ⟨rfl, below_alloc2 _ _ _⟩
set_option maxHeartbeats 1000000 in
theorem eqEntryS (l : List Ent) (va vb : Value) (w : World) (B : Nat) (ha : Lies w B 2 va (entR l)) (hb : Lies w B 2 vb (entR l)) (hn : l.length ≤ 1048576) (hB : B ≤ w.heap.size) :
  Calls Tryz.prog 68 #[va, vb] w fun e w' => e = .returned (.bool true) ∧ Below w.heap.size w w' := by
 obtain ⟨A, cap, rfl, hl⟩ := ent_look ha
 obtain ⟨A', cap', rfl, hl'⟩ := ent_look hb
 have HL : Hid (∀ j, j < l.length → ∃ g off, A = some ⟨g, off, none⟩ ∧ g < B ∧ _) := hl
 have HL' : Hid (∀ j, j < l.length → ∃ g off, A' = some ⟨g, off, none⟩ ∧ g < B ∧ _) := hl'
 have HB : Hid (B ≤ w.heap.size) := hB
 clear hl hl' hB ha hb
 have q1 : (l.length : Int) ≤ 1048576 := by omega
 generalize hN : l.length = n at *
 go_enter Tryz.func68, Tryz.ntmps68
 go_wp2_with fail
 go_loopw [5] (fun v5 wr => ∃ k : Nat, k ≤ n ∧ v5 = .int .i64 (k : Int) ∧ Below w.heap.size w wr) (fun i _ => n - (intOf i).toNat)
 case atStart => exact ⟨0, by omega, rfl, Below.refl _ _⟩
 case round =>
  obtain ⟨k, hk, rfl, hb⟩ := hrel
  have HB1 : Hid (Below w.heap.size w wr) := hb
  clear hb
  by_cases hlt : k < n
  ·have q4 : (k : Int) < (n : Int) := by omega
   obtain ⟨g, off, rfl, hg, ha0, ha1⟩ := HL.out k hlt
   obtain ⟨g', off', rfl, hg', hb0, hb1⟩ := HL'.out k hlt
   have hgw : g < w.heap.size := Nat.lt_of_lt_of_le hg HB.out
   have hgw' : g' < w.heap.size := Nat.lt_of_lt_of_le hg' HB.out
   rw [← HB1.out.cell (p := ⟨_, _, none⟩) hgw] at ha0
   rw [← HB1.out.cell (p := ⟨_, _, none⟩) hgw'] at hb0
   rw [← HB1.out.cell (p := ⟨_, _, none⟩) hgw] at ha1
   rw [← HB1.out.cell (p := ⟨_, _, none⟩) hgw'] at hb1
   have c1 := fun wx => eqEntry (l.getD k default) wx
   unfold vEnt at c1
   generalize l.getD k default = x at *
   have hsz := HB1.out.size
   go_wp2_with fail
   go_region_with (go_at_call 106; refine (c1 _).mono ?_; rintro e w1 ⟨rfl, hb1⟩)
   all_goals go_wp2_with fail
   all_goals exact ⟨⟨k + 1, by omega, by go_num, HB1.out.trans (((Below.refl _ wr).drew.trans hb1).mono hsz)⟩, by simp [intOf]; omega⟩
  ·obtain rfl : k = n := by omega
   go_wp2_with fail
   go_ret
   exact ⟨rfl, HB1.out⟩
end Go.Proofs.YtifmjdakefkbiaaGreatDoor
namespace Go.Proofs.YtifmjdakefkbiaaGreatDoor
open Go.RowKit Go.PlainAid
def strCells (l : List ByteArray) : List Value := l.map Value.string
def Strs (w : World) (base : Nat) (v : Value) (l : List ByteArray) : Prop := w.ownsRow base 9 1 v l.length (strCells l)
theorem Strs.nil (w : World) (base : Nat) : Strs w base (.slice none 0 0) [] := World.ownsRow_nil w base 9 1
theorem Strs.empty (w : World) (base : Nat) (hb : base ≤ w.heap.size) : Strs (w.alloc (.cells #[] 9)) base (.slice (some ⟨w.heap.size, 0, none⟩) 0 0) [] :=
 World.ownsRow_lit w #[] 0 hb (by unfold maxLen; omega) rfl
theorem Strs.mono {w : World} {base base' : Nat} {v : Value} {l : List ByteArray} (h : Strs w base v l) (hb : base' ≤ base) : Strs w base' v l :=
 ⟨h.1, h.2.imp id fun ⟨g, cap, cur, e, hg, r⟩ => ⟨g, cap, cur, e, Nat.le_trans hb hg, r⟩⟩
theorem Strs.kept {w w' : World} {base : Nat} {v : Value} {l : List ByteArray} (h : Strs w base v l) (hk : ∀ g, g < w.heap.size → v.ownBlock = some g → w'.heap[g]? = w.heap[g]?) : Strs w' base v l := by
 have hl := World.ownsRow.lt h
 refine ⟨h.1, h.2.imp id ?_⟩
 rintro ⟨g, cap, cur, rfl, hg, hh, r⟩
 refine ⟨g, cap, cur, rfl, hg, ?_, r⟩
 rw [hk g (hl g rfl).2 rfl]
 exact hh
theorem Strs.on {w w' : World} {base : Nat} {v : Value} {l : List ByteArray} (h : Strs w base v l) (hb : Below w.heap.size w w') : Strs w' base v l := h.kept fun g hg _ => hb.block g hg
theorem Strs.under {w w' : World} {base B : Nat} {v : Value} {l : List ByteArray} (h : Strs w base v l) (hB : w.heap.size ≤ B) (hb : Below B w w') : Strs w' base v l := h.kept fun g hg _ => hb.block g (Nat.lt_of_lt_of_le hg hB)
theorem Strs.alloc {w : World} {base : Nat} {v : Value} {l : List ByteArray} (h : Strs w base v l) (o : Obj) : Strs (w.alloc o) base v l := World.ownsRow.alloc h o
theorem Strs.form {w : World} {base : Nat} {v : Value} {l : List ByteArray} (h : Strs w base v l) : (v = .slice none 0 0 ∧ l = []) ∨ ∃ g cap, v = .slice (some ⟨g, 0, none⟩) l.length cap ∧ base ≤ g ∧ g < w.heap.size := by
 have hl := World.ownsRow.lt h
 rcases h.2 with ⟨rfl, h0⟩ | ⟨g, cap, cur, rfl, hg, _⟩
 ·exact .inl ⟨rfl, List.eq_nil_of_length_eq_zero h0⟩
 ·exact .inr ⟨g, cap, rfl, hg, (hl g rfl).2⟩
theorem Strs.cell {w : World} {base g cap : Nat} {l : List ByteArray} (h : Strs w base (.slice (some ⟨g, 0, none⟩) l.length cap) l) (j : Nat) (hj : j < l.length) : w.cell? ⟨g, j, none⟩ = some (.string l[j]) := by
 rw [World.ownsRow.cellAt h j (by omega)]
 simp [strCells, hj]
theorem Strs.frozen {w : World} {base g cap : Nat} {l : List ByteArray} (h : Strs w base (.slice (some ⟨g, 0, none⟩) l.length cap) l) (j : Nat) : w.frozen? ⟨g, j, none⟩ = false := World.ownsRow.frozenAt h j
theorem Strs.stored {w : World} {base g cap : Nat} {l : List ByteArray} (h : Strs w base (.slice (some ⟨g, 0, none⟩) l.length cap) l) (j : Nat) (x : ByteArray) :
  Strs (w.setCell ⟨g, j, none⟩ (.string x)) base (.slice (some ⟨g, 0, none⟩) l.length cap) (l.set j x) := by
 have hs := (World.ownsRow.stored h j (.string x)).1
 unfold Strs
 rw [List.length_set, strCells, List.map_set]
 exact hs
def dg : Nat → Nat → List UInt8
 | 0, _ => []
 | f + 1, n => if n = 0 then [] else dg f (n / 10) ++ [byt (48 + n % 10)]
theorem dg_zero (f : Nat) : dg f 0 = [] := by
 cases f with
 | zero => rfl
 | succ f => rw [dg, if_pos rfl]
def mark (k : Nat) : ByteArray := txt (109 :: dg 20 k)
def marks (k : Nat) : Nat → List ByteArray
 | 0 => []
 | n + 1 => marks k n ++ [mark (k + n)]
end Go.Proofs.YtifmjdakefkbiaaGreatDoor
namespace Go.Proofs.YtifmjdakefkbiaaGreatDoor
open Go.ChangeShapes Go.WideShapes Go.ChangeAt Go.RowKit Go.PlainAid
set_option linter.unusedVariables false
set_option maxHeartbeats 400000 in
theorem markText (k : Nat) (w : World) (h1 : 1 ≤ k) (h2 : k ≤ 1000000000) :
  Calls Tryz.prog 107 #[.int .i64 (k : Int)] w fun e w' => e = .returned (.string (mark k)) ∧ Below w.heap.size w w' := by
 have q1 : (1 : Int) ≤ (k : Int) := by omega
 have q0 : decide ((k : Int) ≤ 0) = false := decide_eq_false (by omega)
 have q2 : ¬ (k : Int) ≤ 0 := by omega
 go_enter Tryz.func107, Tryz.ntmps107
 go_wp2
 go_loopw [0, 3] (fun v0 v3 wr => ∃ (m f : Nat) (out : List UInt8), v0 = .int .i64 m ∧ m ≤ 1000000000 ∧ m < 10 ^ f ∧ v3 = .string (txt out) ∧ dg f m ++ out = dg 20 k ∧ f + out.length ≤ 20 ∧ Below w.heap.size w wr) (fun i _ _ => (intOf i).toNat)
 case atStart => exact ⟨k, 20, [], rfl, h2, by omega, rfl, by simp, by simp, Below.refl _ _⟩
 case round =>
  obtain ⟨m, f, out, rfl, hm, hf, rfl, hd, hl, hb⟩ := hrel
  have HD : Hid (dg f m ++ out = dg 20 k) := hd
  have HF : Hid (m < 10 ^ f) := hf
  clear hd hf
  by_cases hp : (0 : Int) < (m : Int)
  ·obtain ⟨f', rfl⟩ : ∃ f', f = f' + 1 := by
    cases f with
    | zero => have := HF.out; simp at this; omega
    | succ f' => exact ⟨f', rfl⟩
   have e1 : (48 + (m : Int) % 10) % 256 = (((48 + m % 10) % 256 : Nat) : Int) := by omega
   have e2 : (48 + (m : Int) % 10) = (((48 + m % 10) % 256 : Nat) : Int) := by omega
   have hc : ∀ wx : World, (convert 22 9 (.slice (some ⟨wx.heap.size, 0, none⟩) 1 1)).run Tryz.prog (wx.alloc (.cells #[.int .u8 (48 + (m : Int) % 10)] 5)) = .ok (.string (txt [byt (48 + m % 10)])) (wx.alloc (.cells #[.int .u8 (48 + (m : Int) % 10)] 5)) := by
    intro wx; rw [e2]; exact run_one_byte wx 22 9 5 Tryz.underlying22 Tryz.underlying5 Tryz.underlying9 (48 + m % 10) 1
   clear e1 e2
   have hz1 : (txt [byt (48 + m % 10)]).size = 1 := rfl
   have hz2 : (txt out).size = out.length := txt_size out
   have hsum : (txt [byt (48 + m % 10)]).size + (txt out).size ≤ 9223372036854775807 := by omega
   clear hz1 hz2
   go_wp2
   go_roundw
   case rel =>
    refine ⟨m / 10, f', [byt (48 + m % 10)] ++ out, by go_num, by omega, ?_, by rw [txt_cat], ?_, by simp; omega, hb.alloc (by have := hb.size; omega) _⟩
    ·have := HF.out
     rw [Nat.pow_succ] at this
     omega
    ·have := HD.out
     rw [dg, if_neg (by omega)] at this
     rw [← this]
     simp
   case measure => simp [intOf]; omega
  ·have hm0 : m = 0 := by omega
   subst hm0
   have hz2 : (txt out).size = out.length := txt_size out
   have hz3 : (⟨#[109]⟩ : ByteArray).size = 1 := rfl
   have hsum : (⟨#[109]⟩ : ByteArray).size + (txt out).size ≤ 9223372036854775807 := by omega
   clear hz2 hz3
   go_wp2
   go_ret
   refine ⟨?_, hb⟩
   have := HD.out
   rw [dg_zero, List.nil_append] at this
   rw [this]
   rfl
end Go.Proofs.YtifmjdakefkbiaaGreatDoor
namespace Go.Proofs.YtifmjdakefkbiaaGreatDoor
open Go.ChangeShapes Go.WideShapes Go.ChangeAt Go.RowKit Go.PlainAid
set_option linter.unusedVariables false
def mkEnt (k j : Nat) : List Value := [.int .i64 (((k + 2 * j : Nat) : Int)), .string (mark (k + 2 * j + 1))]
set_option maxHeartbeats 2000000 in
theorem markEntryS (k base : Nat) (v : Value) (R : List (List Value)) (w : World) (hv : Owns w base 75 2 v R) (hl : R.length ≤ 1048576) (h1 : 1 ≤ k) (h2 : k ≤ 10000000) (hbase : base ≤ w.heap.size) :
  Calls Tryz.prog 69 #[v, .int .i64 (k : Int)] w fun e w' => e = .returned (.int .i64 ((k + 2 * R.length : Nat) : Int)) ∧ Owns w' base 75 2 v (newR (mkEnt k) R.length) ∧ Below base w w' ∧ (∀ g, g < w.heap.size → v.ownBlock ≠ some g → w'.heap[g]? = w.heap[g]?) := by
 obtain ⟨A, ca, rfl⟩ : ∃ A ca, v = .slice A R.length ca := by
  rcases hv.2.2 with ⟨rfl, h0⟩ | ⟨g, c, cur, rfl, _⟩
  ·exact ⟨none, 0, by rw [h0]⟩
  ·exact ⟨_, _, rfl⟩
 have HV : Hid (Owns w base 75 2 (.slice A R.length ca) R) := hv
 have q1 : (R.length : Int) ≤ 1048576 := by omega
 have q3 : (k : Int) ≤ 10000000 := by omega
 clear hv hl
 generalize hn : R.length = n at *
 go_enter Tryz.func69, Tryz.ntmps69
 go_wp2_with fail
 go_loopw [1, 5] (fun v1 v5 wr => ∃ j : Nat, j ≤ n ∧ v5 = .int .i64 (j : Int) ∧ v1 = .int .i64 ((k + 2 * j : Nat) : Int) ∧ Owns wr base 75 2 (.slice A n ca) (partR (mkEnt k) R j) ∧ Below base w wr ∧ (∀ g, g < w.heap.size → (Value.slice A n ca).ownBlock ≠ some g → wr.heap[g]? = w.heap[g]?)) (fun _ i _ => n - (intOf i).toNat)
 case atStart => exact ⟨0, by omega, rfl, by simp, by rw [partR_zero]; exact HV.out, Below.refl _ _, fun _ _ _ => rfl⟩
 case round =>
  obtain ⟨j, hj, rfl, rfl, hS, hB, hK⟩ := hrel
  have HS : Hid (Owns wr base 75 2 (.slice A n ca) (partR (mkEnt k) R j)) := hS
  have HB : Hid (Below base w wr) := hB
  have HK : Hid (∀ g, g < w.heap.size → (Value.slice A n ca).ownBlock ≠ some g → wr.heap[g]? = w.heap[g]?) := hK
  clear hS hB hK
  by_cases hlt : j < n
  ·have q2 : (j : Int) < (n : Int) := by omega
   obtain ⟨g, rfl, hgb⟩ : ∃ g, A = some ⟨g, 0, none⟩ ∧ base ≤ g := by
    rcases HS.out.2.2 with ⟨e, h0⟩ | ⟨g, c, cur, e, hg, _⟩
    ·rw [partR_length _ _ _ (by omega), hn] at h0; omega
    ·cases e; exact ⟨g, rfl, hg⟩
   have HG : Hid (base ≤ g) := hgb
   have hpl : (partR (mkEnt k) R j).length = n := by rw [partR_length _ _ _ (by omega), hn]
   have HN2 : Hid ((partR (mkEnt k) R j).length = n) := hpl
   have hO0 : Owns wr base 75 2 (.slice (some ⟨g, 0, none⟩) n ca) ((partR (mkEnt k) R j).set j ((partR (mkEnt k) R j)[j]'(by omega))) := by rw [set_self]; exact HS.out
   have hrl : ((partR (mkEnt k) R j)[j]'(by omega)).length = 2 := HS.out.1 _ (List.getElem_mem _)
   have HF : Hid ((partR (mkEnt k) R j).set j (mkEnt k j) = partR (mkEnt k) R (j + 1)) := partR_set _ _ _ (by omega)
   obtain ⟨y0, y1, hy⟩ : ∃ y0 y1, (partR (mkEnt k) R j)[j]'(by omega) = [y0, y1] := by
    match hh : (partR (mkEnt k) R j)[j]'(by omega), hrl with
    | [y0, y1], _ => exact ⟨y0, y1, rfl⟩
   rw [hy] at hO0
   have hmk : mkEnt k j = [.int .i64 (((k + 2 * j : Nat) : Int)), .string (mark (k + 2 * j + 1))] := rfl
   rw [hmk] at HF
   have HM : Hid (((k + 2 * (j + 1) : Nat) : Int) = ((k + 2 * j : Nat) : Int) + 2) := by unfold Hid; omega
   have q4 : ((k + 2 * j : Nat) : Int) ≤ 20000000 := by omega
   have HM1 : Hid (1 ≤ k + 2 * j) := by unfold Hid; omega
   have HM2 : Hid (k + 2 * j ≤ 20000000) := by unfold Hid; omega
   clear hmk hpl hrl hy
   generalize k + 2 * j = m at *
   generalize partR (mkEnt k) R j = P at *
   have hsz := HB.out.size
   have hgw : g < wr.heap.size := (hO0.lt g rfl).2
   obtain ⟨z0, d0⟩ := hO0.cellAt2 HN2.out hlt 0 (by omega)
   have f0 := hO0.free2 HN2.out (j * 2)
   rw [Nat.add_zero] at d0
   have p0 := (hO0).pokeAt HN2.out hlt 0 (by omega) (.int .i64 ((m : Int)))
   rw [Nat.add_zero] at p0
   have Q0 : Hid (Owns ((wr).setCell ⟨g, j * 2, none⟩ (.int .i64 ((m : Int)))) base 75 2 (.slice (some ⟨g, 0, none⟩) n ca) (P.set j [.int .i64 ((m : Int)), y1])) := p0
   have D0 : Hid (Below base w ((wr).setCell ⟨g, j * 2, none⟩ (.int .i64 ((m : Int))))) := (HB.out).setCell (show base ≤ g from HG.out) _
   have E0 : Hid (∀ b, b < w.heap.size → (Value.slice (some ⟨g, 0, none⟩) n ca).ownBlock ≠ some b → ((wr).setCell ⟨g, j * 2, none⟩ (.int .i64 ((m : Int)))).heap[b]? = w.heap[b]?) := fun b hb hne => by rw [Below.heap_setCell _ _ _ _ (show b ≠ g from fun e => hne (by rw [e]; rfl))]; exact HK.out b hb hne
   clear p0
   have hsz0 : base ≤ ((wr).setCell ⟨g, j * 2, none⟩ (.int .i64 ((m : Int)))).heap.size := Nat.le_trans hbase D0.out.size
   have hwz0 : w.heap.size ≤ ((wr).setCell ⟨g, j * 2, none⟩ (.int .i64 ((m : Int)))).heap.size := D0.out.size
   have c1 : Calls Tryz.prog 107 #[.int .i64 ((m : Int) + 1)] ((wr).setCell ⟨g, j * 2, none⟩ (.int .i64 ((m : Int)))) fun e w' => e = .returned (.string (mark (m + 1))) ∧ Below ((wr).setCell ⟨g, j * 2, none⟩ (.int .i64 ((m : Int)))).heap.size ((wr).setCell ⟨g, j * 2, none⟩ (.int .i64 ((m : Int)))) w' := by
    have h := markText (m + 1) ((wr).setCell ⟨g, j * 2, none⟩ (.int .i64 ((m : Int)))) (by have := HM1.out; omega) (by have := HM2.out; omega)
    rw [show ((m + 1 : Nat) : Int) = (m : Int) + 1 by omega] at h
    exact h
   go_wp2_with fail
   refine c1.mono ?_
   rintro e x1 ⟨rfl, hx1⟩
   have O1 : Hid (Owns x1 base 75 2 (.slice (some ⟨g, 0, none⟩) n ca) (P.set j [.int .i64 ((m : Int)), y1])) := Q0.out.on hx1
   have B1 : Hid (Below base w x1) := (D0.out).trans (hx1.mono hsz0)
   have K1 : Hid (∀ b, b < w.heap.size → (Value.slice (some ⟨g, 0, none⟩) n ca).ownBlock ≠ some b → x1.heap[b]? = w.heap[b]?) := fun b hb hne => (hx1.block b (Nat.lt_of_lt_of_le hb hwz0)).trans (E0.out b hb hne)
   have hwz : w.heap.size ≤ x1.heap.size := B1.out.size
   clear hx1 c1
   obtain ⟨z1, d1⟩ := O1.out.cellAt2 HN2.out hlt 1 (by omega)
   have f1 := O1.out.free2 HN2.out (j * 2 + 1)
   have p1 := (O1.out).pokeAt HN2.out hlt 1 (by omega) (.string (mark (m + 1)))
   have Q1 : Hid (Owns ((x1).setCell ⟨g, j * 2 + 1, none⟩ (.string (mark (m + 1)))) base 75 2 (.slice (some ⟨g, 0, none⟩) n ca) (P.set j [.int .i64 ((m : Int)), .string (mark (m + 1))])) := p1
   have D1 : Hid (Below base w ((x1).setCell ⟨g, j * 2 + 1, none⟩ (.string (mark (m + 1))))) := (B1.out).setCell (show base ≤ g from HG.out) _
   have E1 : Hid (∀ b, b < w.heap.size → (Value.slice (some ⟨g, 0, none⟩) n ca).ownBlock ≠ some b → ((x1).setCell ⟨g, j * 2 + 1, none⟩ (.string (mark (m + 1)))).heap[b]? = w.heap[b]?) := fun b hb hne => by rw [Below.heap_setCell _ _ _ _ (show b ≠ g from fun e => hne (by rw [e]; rfl))]; exact K1.out b hb hne
   clear p1
   go_wp2_with fail
   go_roundw
   case rel => exact ⟨j + 1, by omega, by go_num, by rw [HM.out]; go_num, by rw [← HF.out]; exact Q1.out, D1.out, E1.out⟩
   case measure => simp [intOf]; omega
  ·obtain rfl : j = n := by omega
   go_wp2_with fail
   go_ret
   refine ⟨rfl, ?_, HB.out, HK.out⟩
   have := HS.out
   rw [← hn, partR_all] at this
   rw [← hn]
   exact this
end Go.Proofs.YtifmjdakefkbiaaGreatDoor
namespace Go.Proofs.YtifmjdakefkbiaaGreatDoor
open Go.ChangeShapes Go.WideShapes Go.ChangeAt Go.RowKit Go.PlainAid
set_option linter.unusedVariables false
theorem mkEnt_look {w : World} {B k n : Nat} {v : Value} (h : Lies w B 2 v (newR (mkEnt k) n)) : ∃ A cap, v = .slice A n cap ∧ ∀ j, j < n → ∃ g off, A = some ⟨g, off, none⟩ ∧ g < B ∧ w.cell? ⟨g, off + j * 2, none⟩ = some (.int .i64 (((k + 2 * j : Nat) : Int))) ∧ w.cell? ⟨g, off + j * 2 + 1, none⟩ = some (.string (mark (k + 2 * j + 1))) := by
 obtain ⟨A, cap, e, h⟩ := h.look
 rw [newR_length] at e
 refine ⟨A, cap, e, fun j hj => ?_⟩
 obtain ⟨g, off, e, hg, hc⟩ := h j (by rw [newR_length]; exact hj)
 have hr : (newR (mkEnt k) n)[j]'(by rw [newR_length]; exact hj) = mkEnt k j := by simp [newR]
 rw [hr] at hc
 refine ⟨g, off, e, hg, ?_, ?_⟩
 ·have := hc 0 _ (by omega) rfl; simpa [Nat.add_assoc] using this
 ·have := hc 1 _ (by omega) rfl; simpa [Nat.add_assoc] using this
set_option maxHeartbeats 2000000 in
theorem heldEntryS (k n : Nat) (v : Value) (w : World) (B : Nat) (hv : Lies w B 2 v (newR (mkEnt k) n)) (hl : n ≤ 1048576) (h1 : 1 ≤ k) (h2 : k ≤ 10000000) (hB : B ≤ w.heap.size) :
  Calls Tryz.prog 70 #[v, .int .i64 (k : Int)] w fun e w' => e = .returned (.int .i64 ((k + 2 * n : Nat) : Int)) ∧ Below w.heap.size w w' := by
 obtain ⟨A, ca, rfl, hl'⟩ := mkEnt_look hv
 have HL : Hid (∀ j, j < n → ∃ g off, A = some ⟨g, off, none⟩ ∧ g < B ∧ _) := hl'
 have HB : Hid (B ≤ w.heap.size) := hB
 have q1 : (n : Int) ≤ 1048576 := by omega
 have q3 : (k : Int) ≤ 10000000 := by omega
 clear hv hl hl' hB
 go_enter Tryz.func70, Tryz.ntmps70
 go_wp2_with fail
 go_loopw [1, 5] (fun v1 v5 wr => ∃ j : Nat, j ≤ n ∧ v5 = .int .i64 (j : Int) ∧ v1 = .int .i64 ((k + 2 * j : Nat) : Int) ∧ Below w.heap.size w wr) (fun _ i _ => n - (intOf i).toNat)
 case atStart => exact ⟨0, by omega, rfl, by simp, Below.refl _ _⟩
 case round =>
  obtain ⟨j, hj, rfl, rfl, hb⟩ := hrel
  have HB1 : Hid (Below w.heap.size w wr) := hb
  clear hb
  by_cases hlt : j < n
  ·have q2 : (j : Int) < (n : Int) := by omega
   obtain ⟨g, off, rfl, hg, d0, d1⟩ := HL.out j hlt
   have hgw : g < w.heap.size := Nat.lt_of_lt_of_le hg HB.out
   rw [← HB1.out.cell (p := ⟨_, _, none⟩) hgw] at d0
   rw [← HB1.out.cell (p := ⟨_, _, none⟩) hgw] at d1
   have HM : Hid (((k + 2 * (j + 1) : Nat) : Int) = ((k + 2 * j : Nat) : Int) + 2) := by unfold Hid; omega
   have q4 : ((k + 2 * j : Nat) : Int) ≤ 20000000 := by omega
   have HM1 : Hid (1 ≤ k + 2 * j) := by unfold Hid; omega
   have HM2 : Hid (k + 2 * j ≤ 20000000) := by unfold Hid; omega
   generalize k + 2 * j = m at *
   have hsz := HB1.out.size
   have hgl : Hid (g < wr.heap.size) := Nat.lt_of_lt_of_le hgw hsz
   have c1 : ∀ wx : World, Calls Tryz.prog 107 #[.int .i64 ((m : Int) + 1)] wx fun e w' => e = .returned (.string (mark (m + 1))) ∧ Below wx.heap.size wx w' := fun wx => by
    have h := markText (m + 1) wx (by have := HM1.out; omega) (by have := HM2.out; omega)
    rw [show ((m + 1 : Nat) : Int) = (m : Int) + 1 by omega] at h
    exact h
   clear hgw HL
   go_wp2_with fail
   (go_region_with (go_at_call 107; refine (c1 _).mono ?_; rintro e x0 ⟨rfl, hx0⟩; have a1 := (hx0.cell (p := ⟨g, off + j * 2 + 1, none⟩) hgl.out).trans d1; have hg0 : Hid (g < x0.heap.size) := Nat.lt_of_lt_of_le hgl.out hx0.size))
   all_goals go_wp2_with fail
   all_goals exact ⟨⟨j + 1, by omega, by go_num, by rw [HM.out]; go_num, (HB1.out).trans (((Below.refl _ wr).drew.trans hx0).mono hsz)⟩, by simp [intOf]; omega⟩
  ·obtain rfl : j = n := by omega
   go_wp2_with fail
   go_ret
   exact ⟨rfl, HB1.out⟩
end Go.Proofs.YtifmjdakefkbiaaGreatDoor
namespace Go.Proofs.YtifmjdakefkbiaaGreatDoor
open Go.ChangeShapes Go.WideShapes Go.ChangeAt Go.RowKit Go.PlainAid
set_option linter.unusedVariables false
set_option maxHeartbeats 4000000 in
theorem eqMsg (x : Mg) (va vb : Value) (w : World) (B : Nat) (ha : MgV w B va x) (hb : MgV w B vb x) (hn : x.ents.length ≤ 1048576) (hB : B ≤ w.heap.size) :
  Calls Tryz.prog 25 #[va, vb] w fun e w' => e = .returned (.bool true) ∧ Below w.heap.size w w' := by
 obtain ⟨ua, rfl, al⟩ := ha
 obtain ⟨ub, rfl, bl⟩ := hb
 unfold vMg
 have HB : Hid (B ≤ w.heap.size) := hB
 have AL : Hid (Lies w B 2 ua (entR x.ents)) := al
 have BL : Hid (Lies w B 2 ub (entR x.ents)) := bl
 have L1 : Hid (x.ents.length ≤ 1048576) := hn
 have ny : (x.yes != x.yes) = false := by cases x.yes <;> rfl
 clear al bl hn hB
 have hb0 := below_alloc2 w (.cells #[.int .i64 x.kind, .int .i64 x.frm, .int .i64 x.dst, .int .i64 x.term, .int .i64 x.index, .int .i64 x.iterm, .int .i64 x.commit, .bool x.yes, ua, .string x.data] 31) (.cells #[.int .i64 x.kind, .int .i64 x.frm, .int .i64 x.dst, .int .i64 x.term, .int .i64 x.index, .int .i64 x.iterm, .int .i64 x.commit, .bool x.yes, ub, .string x.data] 31)
 have bA := (Blk.new w #[.int .i64 x.kind, .int .i64 x.frm, .int .i64 x.dst, .int .i64 x.term, .int .i64 x.index, .int .i64 x.iterm, .int .i64 x.commit, .bool x.yes, ua, .string x.data] 31).alloc (.cells #[.int .i64 x.kind, .int .i64 x.frm, .int .i64 x.dst, .int .i64 x.term, .int .i64 x.index, .int .i64 x.iterm, .int .i64 x.commit, .bool x.yes, ub, .string x.data] 31)
 have bB := Blk.new (w.alloc (.cells #[.int .i64 x.kind, .int .i64 x.frm, .int .i64 x.dst, .int .i64 x.term, .int .i64 x.index, .int .i64 x.iterm, .int .i64 x.commit, .bool x.yes, ua, .string x.data] 31)) #[.int .i64 x.kind, .int .i64 x.frm, .int .i64 x.dst, .int .i64 x.term, .int .i64 x.index, .int .i64 x.iterm, .int .i64 x.commit, .bool x.yes, ub, .string x.data] 31
 simp only [World.size_alloc] at bA bB
 obtain ⟨W, hW⟩ : ∃ W, W = (w.alloc (.cells #[.int .i64 x.kind, .int .i64 x.frm, .int .i64 x.dst, .int .i64 x.term, .int .i64 x.index, .int .i64 x.iterm, .int .i64 x.commit, .bool x.yes, ua, .string x.data] 31)).alloc (.cells #[.int .i64 x.kind, .int .i64 x.frm, .int .i64 x.dst, .int .i64 x.term, .int .i64 x.index, .int .i64 x.iterm, .int .i64 x.commit, .bool x.yes, ub, .string x.data] 31) := ⟨_, rfl⟩
 rw [← hW] at hb0 bA bB
 have B0 : Hid (Below w.heap.size w W) := hb0
 have BA := Hid.mkM bA
 have BB := Hid.mkM bB
 go_enter Tryz.func25, Tryz.ntmps25
 clear hb0 bA bB
 go_wp2_with fail
 rw [← hW]
 clear hW
 refine (eqEntryS x.ents ua ub W B (AL.out.on (B0.out.mono HB.out)) (BL.out.on (B0.out.mono HB.out)) L1.out (Nat.le_trans HB.out B0.out.size)).mono ?_
 rintro e w2 ⟨rfl, hb2⟩
 have B2 : Hid (Below w.heap.size w w2) := B0.out.trans (hb2.mono B0.out.size)
 have p9 := (BA.out.on hb2 BA.out.lt).cell 9 _ rfl
 have q9 := (BB.out.on hb2 BB.out.lt).cell 9 _ rfl
 clear hb2
 go_wp2_with fail
 go_ret
 exact ⟨rfl, B2.out⟩
set_option maxHeartbeats 2000000 in
theorem markMsg (x : Mg) (u : Value) (base : Nat) (w : World) (hv : Owns w base 75 2 u (entR x.ents)) (hl : x.ents.length ≤ 1048576) (hbase : base ≤ w.heap.size) :
  Calls Tryz.prog 26 #[vMg x u, .int .i64 1] w fun e w' => e = .returned (.int .i64 ((1 + 2 * x.ents.length : Nat) : Int)) ∧ Owns w' base 75 2 u (newR (mkEnt 1) x.ents.length) ∧ Below base w w' ∧ (∀ g, g < w.heap.size → u.ownBlock ≠ some g → w'.heap[g]? = w.heap[g]?) := by
 unfold vMg
 obtain ⟨A, m, c, rfl⟩ := hv.shape
 have bx : Below w.heap.size w (w.alloc (.cells #[.int .i64 x.kind, .int .i64 x.frm, .int .i64 x.dst, .int .i64 x.term, .int .i64 x.index, .int .i64 x.iterm, .int .i64 x.commit, .bool x.yes, .slice A m c, .string x.data] 31)) := (Below.refl _ _).alloc (Nat.le_refl _) _
 have HB : Hid (base ≤ w.heap.size) := hbase
 have BX := Hid.mkM bx
 have c1 := markEntryS 1 base (.slice A m c) (entR x.ents) _ (hv.on bx) (by rw [entR_length]; exact hl) (by omega) (by omega) (Nat.le_trans hbase bx.size)
 rw [entR_length] at c1
 clear hv bx hbase
 generalize 1 + 2 * x.ents.length = kk at *
 go_enter Tryz.func26, Tryz.ntmps26
 go_wp2_with fail
 refine c1.mono ?_
 rintro e w1 ⟨rfl, hO, hb, hk⟩
 have R := Hid.mkM (show _ ∧ _ ∧ _ from ⟨hO, (BX.out.mono HB.out).trans hb, fun g hg hn => (hk g (Nat.lt_of_lt_of_le hg BX.out.size) hn).trans (BX.out.block g hg)⟩)
 clear hO hb hk
 go_wp2_with fail
 go_ret
 exact ⟨rfl, R.out⟩
set_option maxHeartbeats 2000000 in
theorem heldMsg (x : Mg) (u : Value) (base : Nat) (w : World) (hv : Owns w base 75 2 u (newR (mkEnt 1) x.ents.length)) (hl : x.ents.length ≤ 1048576) :
  Calls Tryz.prog 27 #[vMg x u, .int .i64 1] w fun e w' => e = .returned (.int .i64 ((1 + 2 * x.ents.length : Nat) : Int)) ∧ Below w.heap.size w w' := by
 unfold vMg
 obtain ⟨A, m, c, rfl⟩ := hv.shape
 have bx : Below w.heap.size w (w.alloc (.cells #[.int .i64 x.kind, .int .i64 x.frm, .int .i64 x.dst, .int .i64 x.term, .int .i64 x.index, .int .i64 x.iterm, .int .i64 x.commit, .bool x.yes, .slice A m c, .string x.data] 31)) := (Below.refl _ _).alloc (Nat.le_refl _) _
 have BX := Hid.mkM bx
 have c1 := heldEntryS 1 x.ents.length (.slice A m c) _ _ (hv.on bx).lies hl (by omega) (by omega) (Nat.le_refl _)
 have dk : decide (((1 + 2 * x.ents.length : Nat) : Int) < 0) = false := decide_eq_false (by omega)
 clear hv bx
 generalize 1 + 2 * x.ents.length = kk at *
 go_enter Tryz.func27, Tryz.ntmps27
 go_wp2_with fail
 refine c1.mono ?_
 rintro e w1 ⟨rfl, hb⟩
 have R := Hid.mkM (BX.out.trans (hb.mono BX.out.size))
 clear hb
 go_wp2_with fail
 go_ret
 exact ⟨rfl, R.out⟩
end Go.Proofs.YtifmjdakefkbiaaGreatDoor
namespace Go.Proofs.YtifmjdakefkbiaaGreatDoor
open Go.ChangeShapes Go.WideShapes Go.ChangeAt Go.RowKit Go.PlainAid
set_option linter.unusedVariables false
theorem Owns.notM {w : World} {base : Nat} {e t : TypeId} {sz g : Nat} {cs : Array Value} {v : Value} {rows : List (List Value)} (h : Owns w base e sz v rows) (hb : Blk w g cs t) (hne : e ≠ t) : v.ownBlock ≠ some g := fun hv => by
 obtain ⟨c, fz, e1⟩ := Lib.ownsRow_kind h.2 g hv
 have e2 : w.heap[g]? = some (.cells cs t (0, 0)) := hb
 rw [e2] at e1
 cases e1
 exact hne rfl
set_option maxRecDepth 20000 in
set_option maxHeartbeats 8000000 in
theorem law_fnExactReadMsg (s : ByteArray) (w : World) (hs : s.size ≤ maxLen) (hst : SumTab w) (a0 a1 a2 : Addr) (he : Errs w a0 a1 a2) : Calls Tryz.prog 5 #[.string s] w fun e w' => e = .returned (.bool true) ∧ Below w.heap.size w w' := by
 have ST : Hid (SumTab w) := hst
 have ER : Hid (Errs w a0 a1 a2) := he
 have q0 : (s.size : Int) ≤ 9223372036854775807 := by unfold maxLen at hs; omega
 clear hst he hs
 by_cases hbig : (1048576 : Int) < (s.size : Int)
 ·go_enter Tryz.func5, Tryz.ntmps5
  go_wp2_with fail
  go_ret
  exact ⟨rfl, Below.refl _ _⟩
 have HS : Hid (s.size ≤ 1048576) := by unfold Hid; omega
 have q1 : (s.size : Int) ≤ 1048576 := by omega
 clear hbig
 go_enter Tryz.func5, Tryz.ntmps5
 go_wp2_with fail
 refine (specReadMsg s w HS.out).mono ?_
 rintro e X1 ⟨⟨x, u1, ok, hN, rfl, hO⟩, hb⟩
 have B1 : Hid (Below w.heap.size w X1) := hb
 have HN := Hid.mkM hN
 have H4 : Hid (x.ents.length ≤ 4) := hN.few
 obtain ⟨A1, m1, c1, rfl, ho1⟩ := hO.shape
 have cI : ∀ wx, Below w.heap.size w wx → Calls Tryz.prog 14 #[.string s] wx fun e w' => (∃ A m c, e = .returned (.tuple #[.agg #[.int .i64 x.kind, .int .i64 x.frm, .int .i64 x.dst, .int .i64 x.term, .int .i64 x.index, .int .i64 x.iterm, .int .i64 x.commit, .bool x.yes, .slice A m c, .string x.data], .bool ok]) ∧ Owns w' wx.heap.size 75 2 (.slice A m c) (entR x.ents)) ∧ Below wx.heap.size wx w' := fun wx hx => by
  refine (implReadMsg s wx HS.out (ST.out.on hx) a0 a1 a2 (ER.out.on hx)).mono ?_
  rintro e w' ⟨⟨y, u, c, hN', rfl, hO'⟩, hb'⟩
  obtain ⟨e1, e2⟩ := hN'.one HN.out
  rw [e1] at hO'
  rw [e2]
  obtain ⟨A, m, c, rfl, ho⟩ := hO'.shape
  exact ⟨⟨_, _, _, rfl, ho⟩, hb'⟩
 have cE := fun (wx : World) (A1 A2 : Option Addr) (m1 c1 m2 c2 b1 b2 : Nat) (h1 : Owns wx b1 75 2 (.slice A1 m1 c1) (entR x.ents)) (h2 : Owns wx b2 75 2 (.slice A2 m2 c2) (entR x.ents)) => eqMsg x (.agg #[.int .i64 x.kind, .int .i64 x.frm, .int .i64 x.dst, .int .i64 x.term, .int .i64 x.index, .int .i64 x.iterm, .int .i64 x.commit, .bool x.yes, .slice A1 m1 c1, .string x.data]) (.agg #[.int .i64 x.kind, .int .i64 x.frm, .int .i64 x.dst, .int .i64 x.term, .int .i64 x.index, .int .i64 x.iterm, .int .i64 x.commit, .bool x.yes, .slice A2 m2 c2, .string x.data]) wx wx.heap.size ⟨_, rfl, h1.lies⟩ ⟨_, rfl, h2.lies⟩ (by have := H4.out; omega) (Nat.le_refl _)
 have cM := fun (u : Value) (base : Nat) (wx : World) h1 h2 => markMsg x u base wx h1 (by have := H4.out; omega) h2
 have cH := fun (u : Value) (base : Nat) (wx : World) h1 => heldMsg x u base wx h1 (by have := H4.out; omega)
 unfold vMg at cM cH
 have h4 := H4.out
 have O1 := Hid.mkM ho1
 clear hN HN hO ho1 hb
 generalize hkk : 1 + 2 * x.ents.length = kk at *
 have dk : decide ((kk : Int) < 0) = false := decide_eq_false (by omega)
 have qk : (kk : Int) ≤ 100 := by omega
 clear hkk h4
 generalize newR (mkEnt 1) x.ents.length = RM at *
 generalize entR x.ents = RE at *
 generalize x.kind = x0 at *
 generalize x.frm = x1 at *
 generalize x.dst = x2 at *
 generalize x.term = x3 at *
 generalize x.index = x4 at *
 generalize x.iterm = x5 at *
 generalize x.commit = x6 at *
 generalize x.yes = x7 at *
 generalize x.data = x9 at *
 have hok : (ok != ok) = false := by cases ok <;> rfl
 obtain ⟨X2, hX2⟩ : ∃ X2, X2 = X1.alloc (.cells #[.int .i64 x0, .int .i64 x1, .int .i64 x2, .int .i64 x3, .int .i64 x4, .int .i64 x5, .int .i64 x6, .bool x7, .slice A1 m1 c1, .string x9] 31) := ⟨_, rfl⟩
 have BX : Below X1.heap.size X1 X2 := by rw [hX2]; exact (Below.refl _ _).alloc (Nat.le_refl _) _
 have B2 : Hid (Below w.heap.size w X2) := B1.out.trans (BX.mono B1.out.size)
 have W2 := Hid.mkM (O1.out.on BX)
 have KW : Hid (Blk X2 X1.heap.size #[.int .i64 x0, .int .i64 x1, .int .i64 x2, .int .i64 x3, .int .i64 x4, .int .i64 x5, .int .i64 x6, .bool x7, .slice A1 m1 c1, .string x9] 31) := by unfold Hid; rw [hX2]; exact Blk.new X1 _ _
 clear BX B1 O1
 go_wp2_with fail
 rw [← hX2]
 clear hX2
 refine (cI _ B2.out).mono ?_
 rintro e X3 ⟨⟨A2, m2, c2, rfl, ho⟩, hb⟩
 have C3 : Hid (Below X2.heap.size X2 X3) := hb
 obtain ⟨X4, hX4⟩ : ∃ X4, X4 = X3.alloc (.cells #[.int .i64 x0, .int .i64 x1, .int .i64 x2, .int .i64 x3, .int .i64 x4, .int .i64 x5, .int .i64 x6, .bool x7, .slice A2 m2 c2, .string x9] 31) := ⟨_, rfl⟩
 have BX : Below X3.heap.size X3 X4 := by rw [hX4]; exact (Below.refl _ _).alloc (Nat.le_refl _) _
 have C4 : Hid (Below X2.heap.size X2 X4) := C3.out.trans (BX.mono C3.out.size)
 have G4 := Hid.mkM (ho.on BX)
 have KG : Hid (Blk X4 X3.heap.size #[.int .i64 x0, .int .i64 x1, .int .i64 x2, .int .i64 x3, .int .i64 x4, .int .i64 x5, .int .i64 x6, .bool x7, .slice A2 m2 c2, .string x9] 31) := by unfold Hid; rw [hX4]; exact Blk.new X3 _ _
 have KW4 := Hid.mkM (KW.out.on C4.out KW.out.lt)
 clear ho BX hb
 generalize X1.heap.size = GW at *
 have g0 := KG.out.cell 0 _ rfl
 have g1 := KG.out.cell 1 _ rfl
 have g2 := KG.out.cell 2 _ rfl
 have g3 := KG.out.cell 3 _ rfl
 have g4 := KG.out.cell 4 _ rfl
 have g5 := KG.out.cell 5 _ rfl
 have g6 := KG.out.cell 6 _ rfl
 have g7 := KG.out.cell 7 _ rfl
 have g8 := KG.out.cell 8 _ rfl
 have g9 := KG.out.cell 9 _ rfl
 have h0 := KW4.out.cell 0 _ rfl
 have h1 := KW4.out.cell 1 _ rfl
 have h2 := KW4.out.cell 2 _ rfl
 have h3 := KW4.out.cell 3 _ rfl
 have h4 := KW4.out.cell 4 _ rfl
 have h5 := KW4.out.cell 5 _ rfl
 have h6 := KW4.out.cell 6 _ rfl
 have h7 := KW4.out.cell 7 _ rfl
 have h8 := KW4.out.cell 8 _ rfl
 have h9 := KW4.out.cell 9 _ rfl
 rw [hX4] at g0 g1 g2 g3 g4 g5 g6 g7 g8 g9 h0 h1 h2 h3 h4 h5 h6 h7 h8 h9
 go_wp2_with fail
 rw [← hX4]
 clear hX4 g0 g1 g2 g3 g4 g5 g6 g7 g8 g9 h0 h1 h2 h3 h4 h5 h6 h7 h8 h9
 generalize X3.heap.size = G at *
 refine (cE _ _ _ _ _ _ _ _ _ G4.out (W2.out.on C4.out)).mono ?_
 rintro e X5 ⟨rfl, hb⟩
 have C5 : Hid (Below X2.heap.size X2 X5) := C4.out.trans (hb.mono C4.out.size)
 have G5 := Hid.mkM (G4.out.on hb)
 have K5 := Hid.mkM (KG.out.on hb KG.out.lt)
 clear hb G4 KG KW4
 have g0 := K5.out.cell 0 _ rfl
 have g1 := K5.out.cell 1 _ rfl
 have g2 := K5.out.cell 2 _ rfl
 have g3 := K5.out.cell 3 _ rfl
 have g4 := K5.out.cell 4 _ rfl
 have g5 := K5.out.cell 5 _ rfl
 have g6 := K5.out.cell 6 _ rfl
 have g7 := K5.out.cell 7 _ rfl
 have g8 := K5.out.cell 8 _ rfl
 have g9 := K5.out.cell 9 _ rfl
 go_wp2_with fail
 refine (cM _ _ _ G5.out C5.out.size).mono ?_
 rintro e X6 ⟨rfl, hM, hb, hk⟩
 have C6 : Hid (Below X2.heap.size X2 X6) := C5.out.trans hb
 have M6 := Hid.mkM hM
 have K6 : Hid (Blk X6 G #[.int .i64 x0, .int .i64 x1, .int .i64 x2, .int .i64 x3, .int .i64 x4, .int .i64 x5, .int .i64 x6, .bool x7, .slice A2 m2 c2, .string x9] 31) := (hk _ K5.out.lt (G5.out.notM K5.out (by decide))).trans K5.out
 clear hM hb hk cM G5 K5 g0 g1 g2 g3 g4 g5 g6 g7 g8 g9
 have g0 := K6.out.cell 0 _ rfl
 have g1 := K6.out.cell 1 _ rfl
 have g2 := K6.out.cell 2 _ rfl
 have g3 := K6.out.cell 3 _ rfl
 have g4 := K6.out.cell 4 _ rfl
 have g5 := K6.out.cell 5 _ rfl
 have g6 := K6.out.cell 6 _ rfl
 have g7 := K6.out.cell 7 _ rfl
 have g8 := K6.out.cell 8 _ rfl
 have g9 := K6.out.cell 9 _ rfl
 go_wp2_with fail
 refine (cH _ _ _ M6.out).mono ?_
 rintro e X7 ⟨rfl, hb⟩
 have C7 : Hid (Below X2.heap.size X2 X7) := C6.out.trans (hb.mono C6.out.size)
 have M7 := Hid.mkM (M6.out.on hb)
 have K7 := Hid.mkM (K6.out.on hb K6.out.lt)
 clear hb M6 K6 g0 g1 g2 g3 g4 g5 g6 g7 g8 g9
 go_wp2_with fail
 refine (cI _ (B2.out.trans (C7.out.mono B2.out.size))).mono ?_
 rintro e X8 ⟨⟨A3, m3, c3, rfl, ho⟩, hb⟩
 have C8 : Hid (Below X2.heap.size X2 X8) := C7.out.trans (hb.mono C7.out.size)
 have M8 := Hid.mkM (M7.out.on hb)
 have K8 := Hid.mkM (K7.out.on hb K7.out.lt)
 obtain ⟨X9, hX9⟩ : ∃ X9, X9 = X8.alloc (.cells #[.int .i64 x0, .int .i64 x1, .int .i64 x2, .int .i64 x3, .int .i64 x4, .int .i64 x5, .int .i64 x6, .bool x7, .slice A3 m3 c3, .string x9] 31) := ⟨_, rfl⟩
 have BX : Below X8.heap.size X8 X9 := by rw [hX9]; exact (Below.refl _ _).alloc (Nat.le_refl _) _
 have C9 : Hid (Below X2.heap.size X2 X9) := C8.out.trans (BX.mono C8.out.size)
 have M9 := Hid.mkM (M8.out.on BX)
 have K9 := Hid.mkM (K8.out.on BX K8.out.lt)
 have O9 := Hid.mkM (ho.on BX)
 have KH : Hid (Blk X9 X8.heap.size #[.int .i64 x0, .int .i64 x1, .int .i64 x2, .int .i64 x3, .int .i64 x4, .int .i64 x5, .int .i64 x6, .bool x7, .slice A3 m3 c3, .string x9] 31) := by unfold Hid; rw [hX9]; exact Blk.new X8 _ _
 have KW9 := Hid.mkM (KW.out.on C9.out KW.out.lt)
 clear ho BX hb M7 M8 K7 K8
 have g0 := KH.out.cell 0 _ rfl
 have g1 := KH.out.cell 1 _ rfl
 have g2 := KH.out.cell 2 _ rfl
 have g3 := KH.out.cell 3 _ rfl
 have g4 := KH.out.cell 4 _ rfl
 have g5 := KH.out.cell 5 _ rfl
 have g6 := KH.out.cell 6 _ rfl
 have g7 := KH.out.cell 7 _ rfl
 have g8 := KH.out.cell 8 _ rfl
 have g9 := KH.out.cell 9 _ rfl
 have h0 := KW9.out.cell 0 _ rfl
 have h1 := KW9.out.cell 1 _ rfl
 have h2 := KW9.out.cell 2 _ rfl
 have h3 := KW9.out.cell 3 _ rfl
 have h4 := KW9.out.cell 4 _ rfl
 have h5 := KW9.out.cell 5 _ rfl
 have h6 := KW9.out.cell 6 _ rfl
 have h7 := KW9.out.cell 7 _ rfl
 have h8 := KW9.out.cell 8 _ rfl
 have h9 := KW9.out.cell 9 _ rfl
 rw [hX9] at g0 g1 g2 g3 g4 g5 g6 g7 g8 g9 h0 h1 h2 h3 h4 h5 h6 h7 h8 h9
 go_wp2_with fail
 rw [← hX9]
 clear hX9 g0 g1 g2 g3 g4 g5 g6 g7 g8 g9 h0 h1 h2 h3 h4 h5 h6 h7 h8 h9
 refine (cE _ _ _ _ _ _ _ _ _ O9.out (W2.out.on C9.out)).mono ?_
 rintro e X10 ⟨rfl, hb⟩
 have C10 : Hid (Below X2.heap.size X2 X10) := C9.out.trans (hb.mono C9.out.size)
 have M10 := Hid.mkM (M9.out.on hb)
 have K10 := Hid.mkM (K9.out.on hb K9.out.lt)
 clear hb M9 K9 O9 KH KW9
 have g0 := K10.out.cell 0 _ rfl
 have g1 := K10.out.cell 1 _ rfl
 have g2 := K10.out.cell 2 _ rfl
 have g3 := K10.out.cell 3 _ rfl
 have g4 := K10.out.cell 4 _ rfl
 have g5 := K10.out.cell 5 _ rfl
 have g6 := K10.out.cell 6 _ rfl
 have g7 := K10.out.cell 7 _ rfl
 have g8 := K10.out.cell 8 _ rfl
 have g9 := K10.out.cell 9 _ rfl
 go_wp2_with fail
 refine (cH _ _ _ M10.out).mono ?_
 rintro e X11 ⟨rfl, hb⟩
 have BF : Hid (Below w.heap.size w X11) := B2.out.trans ((C10.out.trans (hb.mono C10.out.size)).mono B2.out.size)
 clear hb
 go_wp2_with fail
 go_ret
 exact ⟨rfl, BF.out⟩
end Go.Proofs.YtifmjdakefkbiaaGreatDoor
