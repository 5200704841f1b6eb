/- WkTo WkEq StrAid StrLaw WkMk WkHd LikeAid NmLaw CoMk CoLaw -/
import Derived.Test.YtlhoonohpfpkbaaRows
import Derived.Test.YtlhoonohpfpkbaaQp0
import Derived.Deep.RegionWith
import Derived.WalkKit
import Derived.ProofKit
import Derived.Laws.OwnMore
import Derived.Below
import Derived.OwnWalk
import Derived.WalkSmall
import Derived.OpenShut
import Derived.WalkLawsBesides
import Derived.Outline
import Derived.BigQuiet
import Derived.Deep.QuietTactic
import Derived.Deep.Cut
import Derived.Handy
namespace Go.Proofs.Ytlhoonohpfpkbaa
open Go.ChangeShapes Go.WideShapes Go.ChangeAt Go.RowKit Go.PlainAid
set_option linter.unusedVariables false
theorem below_alloc3 (w : World) (a b c : Obj) : Below w.heap.size w (((w.alloc a).alloc b).alloc c) := (((Below.refl _ w).alloc (Nat.le_refl _) a).alloc (by simp) b).alloc (by simp; omega) c
set_option maxHeartbeats 400000 in
theorem toEntry (x : Ent) (w : World) : Calls Try.prog 51 #[vEnt x] w fun e w' => e = .returned (vEnt x) ∧ Below w.heap.size w w' := by
 unfold vEnt
 go_enter Try.func51, Try.ntmps51
 go_wp2
 exact bodyPost_ret (v := .agg #[.int .i64 x.term, .string x.data]) (by simp [results, go_sem]) rfl ⟨rfl, below_alloc3 _ _ _ _⟩
theorem Try.infoEnt : (Try.prog.info? 71).map (fun i => (i.zero, i.size, i.bytes)) = some (some (.agg #[.int .i64 0, .string ⟨#[]⟩]), 2, 24) := by kernel_rfl
def entZ : List Value := [.int .i64 0, .string ⟨#[]⟩]
theorem ent_made (n : Nat) : madeCells #[.int .i64 0, .string ⟨#[]⟩] (n * 2) = (List.replicate n entZ).flatten.toArray := by
 apply Array.ext'
 rw [List.toList_toArray]
 apply List.ext_getElem?
 intro k
 have hz : ∀ r ∈ List.replicate n entZ, r.length = 2 := fun r hr => by rw [List.eq_of_mem_replicate hr]; rfl
 by_cases hk : k < n * 2
 ·have e : k = k / 2 * 2 + k % 2 := by omega
  have hf : k % 2 < 2 := Nat.mod_lt _ (by omega)
  have hj : k / 2 < n := Nat.div_lt_of_lt_mul (by omega)
  have := flat_at 2 (List.replicate n entZ) hz (k / 2) (k % 2) (by simpa using hj) hf
  rw [← e] at this
  have hr : (List.replicate n entZ)[k / 2]'(by simpa using hj) = entZ := by simp
  rw [this, hr]
  have hs : (madeCells #[.int .i64 0, .string ⟨#[]⟩] (n * 2)).toList[k]? = some (#[.int .i64 0, .string ⟨#[]⟩].getD (k % 2) default) := by simp [madeCells, hk]
  rw [hs]
  have : k % 2 = 0 ∨ k % 2 = 1 := by omega
  rcases this with h | h <;> rw [h] <;> rfl
 ·have hl : (List.replicate n entZ).flatten.length = n * 2 := by rw [flat_length 2 _ hz]; simp
  have hr : (List.replicate n entZ).flatten[k]? = none := List.getElem?_eq_none (by omega)
  rw [hr]
  apply List.getElem?_eq_none
  rw [Array.length_toList, size_madeCells]
  omega
set_option maxHeartbeats 1000000 in
theorem toEntryS (l : List Ent) (v : Value) (w : World) (B : Nat) (hv : Lies w B 2 v (entR l)) (hn : l.length ≤ 1048576) (hB : B ≤ w.heap.size) :
  Calls Try.prog 27 #[v] w fun e w' => ∃ u, e = .returned u ∧ Owns w' w.heap.size 71 2 u (entR l) ∧ Below w.heap.size w w' := by
 obtain ⟨A, cap, rfl, hl⟩ := ent_look hv
 have HL : Hid (∀ j, j < l.length → ∃ g off, A = some ⟨g, off, none⟩ ∧ g < B ∧ _) := hl
 have HB : Hid (B ≤ w.heap.size) := hB
 clear hl hB hv
 have q1 : (l.length : Int) ≤ 1048576 := by omega
 generalize hN : l.length = n at *
 obtain ⟨i0, hi, hz0, hz1, hz2⟩ := info_parts Try.infoEnt
 have hmk : ∀ wx : World, (Instr.makeSlice 27 (.int .i64 (n : Int)) (.int .i64 (n : Int))).run Try.prog wx = .ok (.slice (some ⟨wx.heap.size, 0, none⟩) n n) (wx.alloc (.cells (List.replicate n entZ).flatten.toArray 71)) := fun wx => by
  have h := run_make (P := Try.prog) wx 27 71 i0 _ Try.underlying27 hi hz0 .i64 .i64 (n : Int) (n : Int) (by omega) (by omega) (by rw [hz2]; omega) (by omega)
  rw [hz1] at h
  have e : (Value.agg #[.int .i64 0, .string ⟨#[]⟩]).cells = #[.int .i64 0, .string ⟨#[]⟩] := rfl
  rw [e, Int.toNat_natCast, ent_made] at h
  exact h
 clear hi hz0 hz1 hz2
 go_enter Try.func27, Try.ntmps27
 go_wp2_with fail
 go_loopw [4] (fun v4 wr => ∃ k : Nat, k ≤ n ∧ v4 = .int .i64 (k : Int) ∧ Owns wr w.heap.size 71 2 (.slice (some ⟨w.heap.size, 0, none⟩) n n) (entR (l.take k) ++ List.replicate (n - k) entZ) ∧ Below w.heap.size w wr) (fun i _ => n - (intOf i).toNat)
 case atStart =>
  refine ⟨0, by omega, rfl, ?_, (Below.refl _ _).alloc (Nat.le_refl _) _⟩
  rw [List.take_zero, Nat.sub_zero, show entR [] = [] from rfl, List.nil_append]
  refine ⟨fun r hr => by rw [List.eq_of_mem_replicate hr]; rfl, ?_⟩
  have hz : ∀ r ∈ List.replicate n entZ, r.length = 2 := fun r hr => by rw [List.eq_of_mem_replicate hr]; rfl
  have hl := flat_length 2 (List.replicate n entZ) hz
  rw [List.length_replicate] at hl ⊢
  exact World.ownsRow_lit w (List.replicate n entZ).flatten.toArray n (Nat.le_refl _) (by unfold maxLen; omega) (by simpa using hl)
 case round =>
  obtain ⟨k, hk, rfl, hO, hb⟩ := hrel
  have HO : Hid (Owns wr w.heap.size 71 2 (.slice (some ⟨w.heap.size, 0, none⟩) n n) (entR (l.take k) ++ List.replicate (n - k) entZ)) := hO
  have HB1 : Hid (Below w.heap.size w wr) := hb
  clear hO hb
  by_cases hlt : k < n
  ·have q4 : (k : Int) < (n : Int) := by omega
   obtain ⟨g, off, rfl, hg, hc0, hc1⟩ := HL.out k (by omega)
   have hgw : g < w.heap.size := Nat.lt_of_lt_of_le hg HB.out
   rw [← HB1.out.cell (p := ⟨_, _, none⟩) hgw] at hc0
   rw [← HB1.out.cell (p := ⟨_, _, none⟩) hgw] at hc1
   have c1 := fun wx => toEntry (l.getD k default) wx
   unfold vEnt at c1
   generalize hx : l.getD k default = x at *
   have HX : Hid (l.getD k default = x) := hx
   clear hx
   go_wp2_with fail
   refine (c1 _).mono ?_
   rintro e w2 ⟨rfl, hb2⟩
   have hlen : (entR (l.take k) ++ List.replicate (n - k) entZ).length = n := by rw [List.length_append, List.length_replicate]; simp [entR]; omega
   have hdl : (entR (l.take k)).length = k := by simp [entR]; omega
   have hO2 := HO.out.on hb2
   have hO3 := hO2
   rw [show (Value.slice (some ⟨w.heap.size, 0, none⟩) n n) = .slice (some ⟨w.heap.size, 0, none⟩) (entR (l.take k) ++ List.replicate (n - k) entZ).length n by rw [hlen]] at hO2
   obtain ⟨y0, d0⟩ := hO2.cellX k 0 (by rw [hlen]; exact hlt) (by omega)
   have f0 := hO2.free (k * 2)
   obtain ⟨y1, d1⟩ := hO2.cellX k 1 (by rw [hlen]; exact hlt) (by omega)
   have f1 := hO2.free (k * 2 + 1)
   rw [Nat.add_zero] at d0
   have hP := hO2.put2 k (by rw [hlen]; exact hlt) (.int .i64 x.term) (.string x.data)
   rw [hlen, fill_step _ _ _ n k hdl hlt, show entR (l.take k) ++ [[.int .i64 x.term, .string x.data]] = entR (l.take (k + 1)) by rw [entR_snoc l k (by omega), HX.out]; rfl] at hP
   have HP : Hid (Owns (((w2).setCell ⟨w.heap.size, k * 2, none⟩ (.int .i64 x.term)).setCell ⟨w.heap.size, k * 2 + 1, none⟩ (.string x.data)) w.heap.size 71 2 (.slice (some ⟨w.heap.size, 0, none⟩) n n) (entR (l.take (k + 1)) ++ List.replicate (n - (k + 1)) entZ)) := hP
   have HB2 : Hid (Below w.heap.size w w2) := HB1.out.trans (hb2.mono HB1.out.size)
   clear hO2 hO3 hP hb2 hlen hdl
   go_wp2_with fail
   go_roundw
   case rel => exact ⟨k + 1, by omega, by go_num, HP.out, ((HB2.out).setCell (Nat.le_refl _) _).setCell (Nat.le_refl _) _⟩
   case measure => simp [intOf]; omega
  ·obtain rfl : k = n := by omega
   go_wp2_with fail
   go_ret
   refine ⟨_, rfl, ?_, HB1.out⟩
   have := HO.out
   rw [← hN, List.take_length, Nat.sub_self, List.replicate_zero, List.append_nil] at this
   rw [← hN]
   exact this
end Go.Proofs.Ytlhoonohpfpkbaa
namespace Go.Proofs.Ytlhoonohpfpkbaa
open Go.ChangeShapes Go.WideShapes Go.ChangeAt Go.RowKit Go.PlainAid
set_option linter.unusedVariables false
theorem below_alloc2 (w : World) (a b : Obj) : Below w.heap.size w ((w.alloc a).alloc b) := ((Below.refl _ w).alloc (Nat.le_refl _) a).alloc (by simp) b
set_option maxHeartbeats 400000 in
theorem eqEntry (x : Ent) (w : World) : Calls Try.prog 61 #[vEnt x, vEnt x] w fun e w' => e = .returned (.bool true) ∧ Below w.heap.size w w' := by
 unfold vEnt
 go_enter Try.func61, Try.ntmps61
 go_wp2
 go_ret
 exact ⟨rfl, below_alloc2 _ _ _⟩
set_option maxHeartbeats 1000000 in
theorem eqEntryS (l : List Ent) (va vb : Value) (w : World) (B : Nat) (ha : Lies w B 2 va (entR l)) (hb : Lies w B 2 vb (entR l)) (hn : l.length ≤ 1048576) (hB : B ≤ w.heap.size) :
  Calls Try.prog 32 #[va, vb] w fun e w' => e = .returned (.bool true) ∧ Below w.heap.size w w' := by
 obtain ⟨A, cap, rfl, hl⟩ := ent_look ha
 obtain ⟨A', cap', rfl, hl'⟩ := ent_look hb
 have HL : Hid (∀ j, j < l.length → ∃ g off, A = some ⟨g, off, none⟩ ∧ g < B ∧ _) := hl
 have HL' : Hid (∀ j, j < l.length → ∃ g off, A' = some ⟨g, off, none⟩ ∧ g < B ∧ _) := hl'
 have HB : Hid (B ≤ w.heap.size) := hB
 clear hl hl' hB ha hb
 have q1 : (l.length : Int) ≤ 1048576 := by omega
 generalize hN : l.length = n at *
 go_enter Try.func32, Try.ntmps32
 go_wp2_with fail
 go_loopw [5] (fun v5 wr => ∃ k : Nat, k ≤ n ∧ v5 = .int .i64 (k : Int) ∧ Below w.heap.size w wr) (fun i _ => n - (intOf i).toNat)
 case atStart => exact ⟨0, by omega, rfl, Below.refl _ _⟩
 case round =>
  obtain ⟨k, hk, rfl, hb⟩ := hrel
  have HB1 : Hid (Below w.heap.size w wr) := hb
  clear hb
  by_cases hlt : k < n
  ·have q4 : (k : Int) < (n : Int) := by omega
   obtain ⟨g, off, rfl, hg, ha0, ha1⟩ := HL.out k hlt
   obtain ⟨g', off', rfl, hg', hb0, hb1⟩ := HL'.out k hlt
   have hgw : g < w.heap.size := Nat.lt_of_lt_of_le hg HB.out
   have hgw' : g' < w.heap.size := Nat.lt_of_lt_of_le hg' HB.out
   rw [← HB1.out.cell (p := ⟨_, _, none⟩) hgw] at ha0
   rw [← HB1.out.cell (p := ⟨_, _, none⟩) hgw'] at hb0
   rw [← HB1.out.cell (p := ⟨_, _, none⟩) hgw] at ha1
   rw [← HB1.out.cell (p := ⟨_, _, none⟩) hgw'] at hb1
   have c1 := fun wx => eqEntry (l.getD k default) wx
   unfold vEnt at c1
   generalize l.getD k default = x at *
   have hsz := HB1.out.size
   go_wp2_with fail
   go_region_with (go_at_call 61; refine (c1 _).mono ?_; rintro e w1 ⟨rfl, hb1⟩)
   all_goals go_wp2_with fail
   all_goals exact ⟨⟨k + 1, by omega, by go_num, HB1.out.trans (((Below.refl _ wr).drew.trans hb1).mono hsz)⟩, by simp [intOf]; omega⟩
  ·obtain rfl : k = n := by omega
   go_wp2_with fail
   go_ret
   exact ⟨rfl, HB1.out⟩
end Go.Proofs.Ytlhoonohpfpkbaa
namespace Go.Proofs.Ytlhoonohpfpkbaa
open Go.RowKit Go.PlainAid
def strCells (l : List ByteArray) : List Value := l.map Value.string
def Strs (w : World) (base : Nat) (v : Value) (l : List ByteArray) : Prop := w.ownsRow base 9 1 v l.length (strCells l)
theorem Strs.nil (w : World) (base : Nat) : Strs w base (.slice none 0 0) [] := World.ownsRow_nil w base 9 1
theorem Strs.empty (w : World) (base : Nat) (hb : base ≤ w.heap.size) : Strs (w.alloc (.cells #[] 9)) base (.slice (some ⟨w.heap.size, 0, none⟩) 0 0) [] :=
 World.ownsRow_lit w #[] 0 hb (by unfold maxLen; omega) rfl
theorem Strs.mono {w : World} {base base' : Nat} {v : Value} {l : List ByteArray} (h : Strs w base v l) (hb : base' ≤ base) : Strs w base' v l :=
 ⟨h.1, h.2.imp id fun ⟨g, cap, cur, e, hg, r⟩ => ⟨g, cap, cur, e, Nat.le_trans hb hg, r⟩⟩
theorem Strs.kept {w w' : World} {base : Nat} {v : Value} {l : List ByteArray} (h : Strs w base v l) (hk : ∀ g, g < w.heap.size → v.ownBlock = some g → w'.heap[g]? = w.heap[g]?) : Strs w' base v l := by
 have hl := World.ownsRow.lt h
 refine ⟨h.1, h.2.imp id ?_⟩
 rintro ⟨g, cap, cur, rfl, hg, hh, r⟩
 refine ⟨g, cap, cur, rfl, hg, ?_, r⟩
 rw [hk g (hl g rfl).2 rfl]
 exact hh
theorem Strs.on {w w' : World} {base : Nat} {v : Value} {l : List ByteArray} (h : Strs w base v l) (hb : Below w.heap.size w w') : Strs w' base v l := h.kept fun g hg _ => hb.block g hg
theorem Strs.under {w w' : World} {base B : Nat} {v : Value} {l : List ByteArray} (h : Strs w base v l) (hB : w.heap.size ≤ B) (hb : Below B w w') : Strs w' base v l := h.kept fun g hg _ => hb.block g (Nat.lt_of_lt_of_le hg hB)
theorem Strs.alloc {w : World} {base : Nat} {v : Value} {l : List ByteArray} (h : Strs w base v l) (o : Obj) : Strs (w.alloc o) base v l := World.ownsRow.alloc h o
theorem Strs.form {w : World} {base : Nat} {v : Value} {l : List ByteArray} (h : Strs w base v l) : (v = .slice none 0 0 ∧ l = []) ∨ ∃ g cap, v = .slice (some ⟨g, 0, none⟩) l.length cap ∧ base ≤ g ∧ g < w.heap.size := by
 have hl := World.ownsRow.lt h
 rcases h.2 with ⟨rfl, h0⟩ | ⟨g, cap, cur, rfl, hg, _⟩
 ·exact .inl ⟨rfl, List.eq_nil_of_length_eq_zero h0⟩
 ·exact .inr ⟨g, cap, rfl, hg, (hl g rfl).2⟩
theorem Strs.cell {w : World} {base g cap : Nat} {l : List ByteArray} (h : Strs w base (.slice (some ⟨g, 0, none⟩) l.length cap) l) (j : Nat) (hj : j < l.length) : w.cell? ⟨g, j, none⟩ = some (.string l[j]) := by
 rw [World.ownsRow.cellAt h j (by omega)]
 simp [strCells, hj]
theorem Strs.frozen {w : World} {base g cap : Nat} {l : List ByteArray} (h : Strs w base (.slice (some ⟨g, 0, none⟩) l.length cap) l) (j : Nat) : w.frozen? ⟨g, j, none⟩ = false := World.ownsRow.frozenAt h j
theorem Strs.stored {w : World} {base g cap : Nat} {l : List ByteArray} (h : Strs w base (.slice (some ⟨g, 0, none⟩) l.length cap) l) (j : Nat) (x : ByteArray) :
  Strs (w.setCell ⟨g, j, none⟩ (.string x)) base (.slice (some ⟨g, 0, none⟩) l.length cap) (l.set j x) := by
 have hs := (World.ownsRow.stored h j (.string x)).1
 unfold Strs
 rw [List.length_set, strCells, List.map_set]
 exact hs
def dg : Nat → Nat → List UInt8
 | 0, _ => []
 | f + 1, n => if n = 0 then [] else dg f (n / 10) ++ [byt (48 + n % 10)]
theorem dg_zero (f : Nat) : dg f 0 = [] := by
 cases f with
 | zero => rfl
 | succ f => rw [dg, if_pos rfl]
def mark (k : Nat) : ByteArray := txt (109 :: dg 20 k)
def marks (k : Nat) : Nat → List ByteArray
 | 0 => []
 | n + 1 => marks k n ++ [mark (k + n)]
def marked (k : Nat) (l : List ByteArray) (j : Nat) : List ByteArray := marks k j ++ l.drop j
end Go.Proofs.Ytlhoonohpfpkbaa
namespace Go.Proofs.Ytlhoonohpfpkbaa
open Go.ChangeShapes Go.WideShapes Go.ChangeAt Go.RowKit Go.PlainAid
set_option linter.unusedVariables false
set_option maxHeartbeats 400000 in
theorem markText (k : Nat) (w : World) (h1 : 1 ≤ k) (h2 : k ≤ 1000000000) :
  Calls Try.prog 37 #[.int .i64 (k : Int)] w fun e w' => e = .returned (.string (mark k)) ∧ Below w.heap.size w w' := by
 have q1 : (1 : Int) ≤ (k : Int) := by omega
 have q0 : decide ((k : Int) ≤ 0) = false := decide_eq_false (by omega)
 have q2 : ¬ (k : Int) ≤ 0 := by omega
 go_enter Try.func37, Try.ntmps37
 go_wp2
 go_loopw [0, 3] (fun v0 v3 wr => ∃ (m f : Nat) (out : List UInt8), v0 = .int .i64 m ∧ m ≤ 1000000000 ∧ m < 10 ^ f ∧ v3 = .string (txt out) ∧ dg f m ++ out = dg 20 k ∧ f + out.length ≤ 20 ∧ Below w.heap.size w wr) (fun i _ _ => (intOf i).toNat)
 case atStart => exact ⟨k, 20, [], rfl, h2, by omega, rfl, by simp, by simp, Below.refl _ _⟩
 case round =>
  obtain ⟨m, f, out, rfl, hm, hf, rfl, hd, hl, hb⟩ := hrel
  have HD : Hid (dg f m ++ out = dg 20 k) := hd
  have HF : Hid (m < 10 ^ f) := hf
  clear hd hf
  by_cases hp : (0 : Int) < (m : Int)
  ·obtain ⟨f', rfl⟩ : ∃ f', f = f' + 1 := by
    cases f with
    | zero => have := HF.out; simp at this; omega
    | succ f' => exact ⟨f', rfl⟩
   have e1 : (48 + (m : Int) % 10) % 256 = (((48 + m % 10) % 256 : Nat) : Int) := by omega
   have e2 : (48 + (m : Int) % 10) = (((48 + m % 10) % 256 : Nat) : Int) := by omega
   have hc : ∀ wx : World, (convert 82 9 (.slice (some ⟨wx.heap.size, 0, none⟩) 1 1)).run Try.prog (wx.alloc (.cells #[.int .u8 (48 + (m : Int) % 10)] 5)) = .ok (.string (txt [byt (48 + m % 10)])) (wx.alloc (.cells #[.int .u8 (48 + (m : Int) % 10)] 5)) := by
    intro wx; rw [e2]; exact run_one_byte wx 82 9 5 Try.underlying82 Try.underlying5 Try.underlying9 (48 + m % 10) 1
   clear e1 e2
   have hz1 : (txt [byt (48 + m % 10)]).size = 1 := rfl
   have hz2 : (txt out).size = out.length := txt_size out
   have hsum : (txt [byt (48 + m % 10)]).size + (txt out).size ≤ 9223372036854775807 := by omega
   clear hz1 hz2
   go_wp2
   go_roundw
   case rel =>
    refine ⟨m / 10, f', [byt (48 + m % 10)] ++ out, by go_num, by omega, ?_, by rw [txt_cat], ?_, by simp; omega, hb.alloc (by have := hb.size; omega) _⟩
    ·have := HF.out
     rw [Nat.pow_succ] at this
     omega
    ·have := HD.out
     rw [dg, if_neg (by omega)] at this
     rw [← this]
     simp
   case measure => simp [intOf]; omega
  ·have hm0 : m = 0 := by omega
   subst hm0
   have hz2 : (txt out).size = out.length := txt_size out
   have hz3 : (⟨#[109]⟩ : ByteArray).size = 1 := rfl
   have hsum : (⟨#[109]⟩ : ByteArray).size + (txt out).size ≤ 9223372036854775807 := by omega
   clear hz2 hz3
   go_wp2
   go_ret
   refine ⟨?_, hb⟩
   have := HD.out
   rw [dg_zero, List.nil_append] at this
   rw [this]
   rfl
end Go.Proofs.Ytlhoonohpfpkbaa
namespace Go.Proofs.Ytlhoonohpfpkbaa
open Go.ChangeShapes Go.WideShapes Go.ChangeAt Go.RowKit Go.PlainAid
set_option linter.unusedVariables false
def mkEnt (k j : Nat) : List Value := [.int .i64 (((k + 2 * j : Nat) : Int)), .string (mark (k + 2 * j + 1))]
set_option maxHeartbeats 2000000 in
theorem markEntryS (k base : Nat) (v : Value) (R : List (List Value)) (w : World) (hv : Owns w base 71 2 v R) (hl : R.length ≤ 1048576) (h1 : 1 ≤ k) (h2 : k ≤ 10000000) (hbase : base ≤ w.heap.size) :
  Calls Try.prog 35 #[v, .int .i64 (k : Int)] w fun e w' => e = .returned (.int .i64 ((k + 2 * R.length : Nat) : Int)) ∧ Owns w' base 71 2 v (newR (mkEnt k) R.length) ∧ Below base w w' ∧ (∀ g, g < w.heap.size → v.ownBlock ≠ some g → w'.heap[g]? = w.heap[g]?) := by
 obtain ⟨A, ca, rfl⟩ : ∃ A ca, v = .slice A R.length ca := by
  rcases hv.2.2 with ⟨rfl, h0⟩ | ⟨g, c, cur, rfl, _⟩
  ·exact ⟨none, 0, by rw [h0]⟩
  ·exact ⟨_, _, rfl⟩
 have HV : Hid (Owns w base 71 2 (.slice A R.length ca) R) := hv
 have q1 : (R.length : Int) ≤ 1048576 := by omega
 have q3 : (k : Int) ≤ 10000000 := by omega
 clear hv hl
 generalize hn : R.length = n at *
 go_enter Try.func35, Try.ntmps35
 go_wp2_with fail
 go_loopw [1, 5] (fun v1 v5 wr => ∃ j : Nat, j ≤ n ∧ v5 = .int .i64 (j : Int) ∧ v1 = .int .i64 ((k + 2 * j : Nat) : Int) ∧ Owns wr base 71 2 (.slice A n ca) (partR (mkEnt k) R j) ∧ Below base w wr ∧ (∀ g, g < w.heap.size → (Value.slice A n ca).ownBlock ≠ some g → wr.heap[g]? = w.heap[g]?)) (fun _ i _ => n - (intOf i).toNat)
 case atStart => exact ⟨0, by omega, rfl, by simp, by rw [partR_zero]; exact HV.out, Below.refl _ _, fun _ _ _ => rfl⟩
 case round =>
  obtain ⟨j, hj, rfl, rfl, hS, hB, hK⟩ := hrel
  have HS : Hid (Owns wr base 71 2 (.slice A n ca) (partR (mkEnt k) R j)) := hS
  have HB : Hid (Below base w wr) := hB
  have HK : Hid (∀ g, g < w.heap.size → (Value.slice A n ca).ownBlock ≠ some g → wr.heap[g]? = w.heap[g]?) := hK
  clear hS hB hK
  by_cases hlt : j < n
  ·have q2 : (j : Int) < (n : Int) := by omega
   obtain ⟨g, rfl, hgb⟩ : ∃ g, A = some ⟨g, 0, none⟩ ∧ base ≤ g := by
    rcases HS.out.2.2 with ⟨e, h0⟩ | ⟨g, c, cur, e, hg, _⟩
    ·rw [partR_length _ _ _ (by omega), hn] at h0; omega
    ·cases e; exact ⟨g, rfl, hg⟩
   have HG : Hid (base ≤ g) := hgb
   have hpl : (partR (mkEnt k) R j).length = n := by rw [partR_length _ _ _ (by omega), hn]
   have HN2 : Hid ((partR (mkEnt k) R j).length = n) := hpl
   have hO0 : Owns wr base 71 2 (.slice (some ⟨g, 0, none⟩) n ca) ((partR (mkEnt k) R j).set j ((partR (mkEnt k) R j)[j]'(by omega))) := by rw [set_self]; exact HS.out
   have hrl : ((partR (mkEnt k) R j)[j]'(by omega)).length = 2 := HS.out.1 _ (List.getElem_mem _)
   have HF : Hid ((partR (mkEnt k) R j).set j (mkEnt k j) = partR (mkEnt k) R (j + 1)) := partR_set _ _ _ (by omega)
   obtain ⟨y0, y1, hy⟩ : ∃ y0 y1, (partR (mkEnt k) R j)[j]'(by omega) = [y0, y1] := by
    match hh : (partR (mkEnt k) R j)[j]'(by omega), hrl with
    | [y0, y1], _ => exact ⟨y0, y1, rfl⟩
   rw [hy] at hO0
   have hmk : mkEnt k j = [.int .i64 (((k + 2 * j : Nat) : Int)), .string (mark (k + 2 * j + 1))] := rfl
   rw [hmk] at HF
   have HM : Hid (((k + 2 * (j + 1) : Nat) : Int) = ((k + 2 * j : Nat) : Int) + 2) := by unfold Hid; omega
   have q4 : ((k + 2 * j : Nat) : Int) ≤ 20000000 := by omega
   have HM1 : Hid (1 ≤ k + 2 * j) := by unfold Hid; omega
   have HM2 : Hid (k + 2 * j ≤ 20000000) := by unfold Hid; omega
   clear hmk hpl hrl hy
   generalize k + 2 * j = m at *
   generalize partR (mkEnt k) R j = P at *
   have hsz := HB.out.size
   have hgw : g < wr.heap.size := (hO0.lt g rfl).2
   obtain ⟨z0, d0⟩ := hO0.cellAt2 HN2.out hlt 0 (by omega)
   have f0 := hO0.free2 HN2.out (j * 2)
   rw [Nat.add_zero] at d0
   have p0 := (hO0).pokeAt HN2.out hlt 0 (by omega) (.int .i64 ((m : Int)))
   rw [Nat.add_zero] at p0
   have Q0 : Hid (Owns ((wr).setCell ⟨g, j * 2, none⟩ (.int .i64 ((m : Int)))) base 71 2 (.slice (some ⟨g, 0, none⟩) n ca) (P.set j [.int .i64 ((m : Int)), y1])) := p0
   have D0 : Hid (Below base w ((wr).setCell ⟨g, j * 2, none⟩ (.int .i64 ((m : Int))))) := (HB.out).setCell (show base ≤ g from HG.out) _
   have E0 : Hid (∀ b, b < w.heap.size → (Value.slice (some ⟨g, 0, none⟩) n ca).ownBlock ≠ some b → ((wr).setCell ⟨g, j * 2, none⟩ (.int .i64 ((m : Int)))).heap[b]? = w.heap[b]?) := fun b hb hne => by rw [Below.heap_setCell _ _ _ _ (show b ≠ g from fun e => hne (by rw [e]; rfl))]; exact HK.out b hb hne
   clear p0
   have hsz0 : base ≤ ((wr).setCell ⟨g, j * 2, none⟩ (.int .i64 ((m : Int)))).heap.size := Nat.le_trans hbase D0.out.size
   have hwz0 : w.heap.size ≤ ((wr).setCell ⟨g, j * 2, none⟩ (.int .i64 ((m : Int)))).heap.size := D0.out.size
   have c1 : Calls Try.prog 37 #[.int .i64 ((m : Int) + 1)] ((wr).setCell ⟨g, j * 2, none⟩ (.int .i64 ((m : Int)))) fun e w' => e = .returned (.string (mark (m + 1))) ∧ Below ((wr).setCell ⟨g, j * 2, none⟩ (.int .i64 ((m : Int)))).heap.size ((wr).setCell ⟨g, j * 2, none⟩ (.int .i64 ((m : Int)))) w' := by
    have h := markText (m + 1) ((wr).setCell ⟨g, j * 2, none⟩ (.int .i64 ((m : Int)))) (by have := HM1.out; omega) (by have := HM2.out; omega)
    rw [show ((m + 1 : Nat) : Int) = (m : Int) + 1 by omega] at h
    exact h
   go_wp2_with fail
   refine c1.mono ?_
   rintro e x1 ⟨rfl, hx1⟩
   have O1 : Hid (Owns x1 base 71 2 (.slice (some ⟨g, 0, none⟩) n ca) (P.set j [.int .i64 ((m : Int)), y1])) := Q0.out.on hx1
   have B1 : Hid (Below base w x1) := (D0.out).trans (hx1.mono hsz0)
   have K1 : Hid (∀ b, b < w.heap.size → (Value.slice (some ⟨g, 0, none⟩) n ca).ownBlock ≠ some b → x1.heap[b]? = w.heap[b]?) := fun b hb hne => (hx1.block b (Nat.lt_of_lt_of_le hb hwz0)).trans (E0.out b hb hne)
   have hwz : w.heap.size ≤ x1.heap.size := B1.out.size
   clear hx1 c1
   obtain ⟨z1, d1⟩ := O1.out.cellAt2 HN2.out hlt 1 (by omega)
   have f1 := O1.out.free2 HN2.out (j * 2 + 1)
   have p1 := (O1.out).pokeAt HN2.out hlt 1 (by omega) (.string (mark (m + 1)))
   have Q1 : Hid (Owns ((x1).setCell ⟨g, j * 2 + 1, none⟩ (.string (mark (m + 1)))) base 71 2 (.slice (some ⟨g, 0, none⟩) n ca) (P.set j [.int .i64 ((m : Int)), .string (mark (m + 1))])) := p1
   have D1 : Hid (Below base w ((x1).setCell ⟨g, j * 2 + 1, none⟩ (.string (mark (m + 1))))) := (B1.out).setCell (show base ≤ g from HG.out) _
   have E1 : Hid (∀ b, b < w.heap.size → (Value.slice (some ⟨g, 0, none⟩) n ca).ownBlock ≠ some b → ((x1).setCell ⟨g, j * 2 + 1, none⟩ (.string (mark (m + 1)))).heap[b]? = w.heap[b]?) := fun b hb hne => by rw [Below.heap_setCell _ _ _ _ (show b ≠ g from fun e => hne (by rw [e]; rfl))]; exact K1.out b hb hne
   clear p1
   go_wp2_with fail
   go_roundw
   case rel => exact ⟨j + 1, by omega, by go_num, by rw [HM.out]; go_num, by rw [← HF.out]; exact Q1.out, D1.out, E1.out⟩
   case measure => simp [intOf]; omega
  ·obtain rfl : j = n := by omega
   go_wp2_with fail
   go_ret
   refine ⟨rfl, ?_, HB.out, HK.out⟩
   have := HS.out
   rw [← hn, partR_all] at this
   rw [← hn]
   exact this
end Go.Proofs.Ytlhoonohpfpkbaa
namespace Go.Proofs.Ytlhoonohpfpkbaa
open Go.ChangeShapes Go.WideShapes Go.ChangeAt Go.RowKit Go.PlainAid
set_option linter.unusedVariables false
theorem mkEnt_look {w : World} {B k n : Nat} {v : Value} (h : Lies w B 2 v (newR (mkEnt k) n)) : ∃ A cap, v = .slice A n cap ∧ ∀ j, j < n → ∃ g off, A = some ⟨g, off, none⟩ ∧ g < B ∧ w.cell? ⟨g, off + j * 2, none⟩ = some (.int .i64 (((k + 2 * j : Nat) : Int))) ∧ w.cell? ⟨g, off + j * 2 + 1, none⟩ = some (.string (mark (k + 2 * j + 1))) := by
 obtain ⟨A, cap, e, h⟩ := h.look
 rw [newR_length] at e
 refine ⟨A, cap, e, fun j hj => ?_⟩
 obtain ⟨g, off, e, hg, hc⟩ := h j (by rw [newR_length]; exact hj)
 have hr : (newR (mkEnt k) n)[j]'(by rw [newR_length]; exact hj) = mkEnt k j := by simp [newR]
 rw [hr] at hc
 refine ⟨g, off, e, hg, ?_, ?_⟩
 ·have := hc 0 _ (by omega) rfl; simpa [Nat.add_assoc] using this
 ·have := hc 1 _ (by omega) rfl; simpa [Nat.add_assoc] using this
set_option maxHeartbeats 2000000 in
theorem heldEntryS (k n : Nat) (v : Value) (w : World) (B : Nat) (hv : Lies w B 2 v (newR (mkEnt k) n)) (hl : n ≤ 1048576) (h1 : 1 ≤ k) (h2 : k ≤ 10000000) (hB : B ≤ w.heap.size) :
  Calls Try.prog 38 #[v, .int .i64 (k : Int)] w fun e w' => e = .returned (.int .i64 ((k + 2 * n : Nat) : Int)) ∧ Below w.heap.size w w' := by
 obtain ⟨A, ca, rfl, hl'⟩ := mkEnt_look hv
 have HL : Hid (∀ j, j < n → ∃ g off, A = some ⟨g, off, none⟩ ∧ g < B ∧ _) := hl'
 have HB : Hid (B ≤ w.heap.size) := hB
 have q1 : (n : Int) ≤ 1048576 := by omega
 have q3 : (k : Int) ≤ 10000000 := by omega
 clear hv hl hl' hB
 go_enter Try.func38, Try.ntmps38
 go_wp2_with fail
 go_loopw [1, 5] (fun v1 v5 wr => ∃ j : Nat, j ≤ n ∧ v5 = .int .i64 (j : Int) ∧ v1 = .int .i64 ((k + 2 * j : Nat) : Int) ∧ Below w.heap.size w wr) (fun _ i _ => n - (intOf i).toNat)
 case atStart => exact ⟨0, by omega, rfl, by simp, Below.refl _ _⟩
 case round =>
  obtain ⟨j, hj, rfl, rfl, hb⟩ := hrel
  have HB1 : Hid (Below w.heap.size w wr) := hb
  clear hb
  by_cases hlt : j < n
  ·have q2 : (j : Int) < (n : Int) := by omega
   obtain ⟨g, off, rfl, hg, d0, d1⟩ := HL.out j hlt
   have hgw : g < w.heap.size := Nat.lt_of_lt_of_le hg HB.out
   rw [← HB1.out.cell (p := ⟨_, _, none⟩) hgw] at d0
   rw [← HB1.out.cell (p := ⟨_, _, none⟩) hgw] at d1
   have HM : Hid (((k + 2 * (j + 1) : Nat) : Int) = ((k + 2 * j : Nat) : Int) + 2) := by unfold Hid; omega
   have q4 : ((k + 2 * j : Nat) : Int) ≤ 20000000 := by omega
   have HM1 : Hid (1 ≤ k + 2 * j) := by unfold Hid; omega
   have HM2 : Hid (k + 2 * j ≤ 20000000) := by unfold Hid; omega
   generalize k + 2 * j = m at *
   have hsz := HB1.out.size
   have hgl : Hid (g < wr.heap.size) := Nat.lt_of_lt_of_le hgw hsz
   have c1 : ∀ wx : World, Calls Try.prog 37 #[.int .i64 ((m : Int) + 1)] wx fun e w' => e = .returned (.string (mark (m + 1))) ∧ Below wx.heap.size wx w' := fun wx => by
    have h := markText (m + 1) wx (by have := HM1.out; omega) (by have := HM2.out; omega)
    rw [show ((m + 1 : Nat) : Int) = (m : Int) + 1 by omega] at h
    exact h
   clear hgw HL
   go_wp2_with fail
   (go_region_with (go_at_call 37; refine (c1 _).mono ?_; rintro e x0 ⟨rfl, hx0⟩; have a1 := (hx0.cell (p := ⟨g, off + j * 2 + 1, none⟩) hgl.out).trans d1; have hg0 : Hid (g < x0.heap.size) := Nat.lt_of_lt_of_le hgl.out hx0.size))
   all_goals go_wp2_with fail
   all_goals exact ⟨⟨j + 1, by omega, by go_num, by rw [HM.out]; go_num, (HB1.out).trans (((Below.refl _ wr).drew.trans hx0).mono hsz)⟩, by simp [intOf]; omega⟩
  ·obtain rfl : j = n := by omega
   go_wp2_with fail
   go_ret
   exact ⟨rfl, HB1.out⟩
end Go.Proofs.Ytlhoonohpfpkbaa
namespace Go.Proofs.Ytlhoonohpfpkbaa
open Go.RowKit
theorem cell?_heap {w w' : World} (h : w'.heap = w.heap) (a : Addr) : w'.cell? a = w.cell? a := by
 unfold World.cell?
 rw [h]
theorem below_heap {w w' : World} (h1 : w'.heap = w.heap) (h2 : w'.os = w.os) (h3 : w'.tape = w.tape) (h4 : w'.output = w.output) : Below w.heap.size w w' := ⟨h2, h3, h4, by rw [h1]; exact Nat.le_refl _, fun k _ => by rw [h1]⟩
def Like (w w' : World) : Prop := w'.heap = w.heap ∧ w'.os = w.os ∧ w'.tape = w.tape ∧ w'.output = w.output
theorem Like.refl (w : World) : Like w w := ⟨rfl, rfl, rfl, rfl⟩
theorem Like.drewN {w w' : World} (h : Like w w') (n : Nat) : Like w (w'.drewN n) := h
theorem Like.below {w w' : World} (h : Like w w') : Below w.heap.size w w' := below_heap h.1 h.2.1 h.2.2.1 h.2.2.2
end Go.Proofs.Ytlhoonohpfpkbaa
namespace Go.Proofs.Ytlhoonohpfpkbaa
open Go.ChangeShapes Go.WideShapes Go.ChangeAt Go.RowKit Go.PlainAid
set_option linter.unusedVariables false
theorem Try.infoInt : (Try.prog.info? 3).map (fun i => (i.zero, i.size, i.bytes)) = some (some (.int .i64 0), 1, 8) := by kernel_rfl
theorem num_made (n : Nat) : madeCells #[.int .i64 0] (n * 1) = (numCells (List.replicate n 0)).toArray := by
 apply Array.ext'
 rw [List.toList_toArray]
 apply List.ext_getElem?
 intro k
 by_cases hk : k < n
 ·simp [madeCells, numCells, hk, Nat.mod_one]
 ·simp [madeCells, numCells, hk]
set_option maxHeartbeats 1000000 in
theorem toIntS (l : List Int) (v : Value) (w : World) (B : Nat) (hv : NumsV w B v l) (hn : l.length ≤ 1048576) (hB : B ≤ w.heap.size) :
  Calls Try.prog 28 #[v] w fun e w' => ∃ u, e = .returned u ∧ Nums w' w.heap.size u l ∧ Below w.heap.size w w' := by
 obtain ⟨A, cap, rfl, _, _, hl⟩ := hv
 have HL : Hid (∀ j, j < l.length → ∃ g off, A = some ⟨g, off, none⟩ ∧ g < B ∧ _) := hl
 have HB : Hid (B ≤ w.heap.size) := hB
 clear hl hB
 have q1 : (l.length : Int) ≤ 1048576 := by omega
 generalize hN : l.length = n at *
 obtain ⟨i0, hi, hz0, hz1, hz2⟩ := info_parts Try.infoInt
 have hmk : ∀ wx : World, (Instr.makeSlice 23 (.int .i64 (n : Int)) (.int .i64 (n : Int))).run Try.prog wx = .ok (.slice (some ⟨wx.heap.size, 0, none⟩) n n) (wx.alloc (.cells (numCells (List.replicate n 0)).toArray 3)) := fun wx => by
  have h := run_make (P := Try.prog) wx 23 3 i0 _ Try.underlying23 hi hz0 .i64 .i64 (n : Int) (n : Int) (by omega) (by omega) (by rw [hz2]; omega) (by omega)
  rw [hz1] at h
  have e : (Value.int .i64 0).cells = #[.int .i64 0] := rfl
  rw [e, Int.toNat_natCast, num_made] at h
  exact h
 clear hi hz0 hz1 hz2
 have HLN : Hid (l.length = n) := hN
 clear hN
 go_enter Try.func28, Try.ntmps28
 go_wp2_with fail
 go_loopw [4] (fun v4 wr => ∃ k : Nat, k ≤ n ∧ v4 = .int .i64 (k : Int) ∧ Nums wr w.heap.size (.slice (some ⟨w.heap.size, 0, none⟩) n n) (l.take k ++ List.replicate (n - k) 0) ∧ Below w.heap.size w wr) (fun i _ => n - (intOf i).toNat)
 case atStart =>
  refine ⟨0, by omega, rfl, ?_, (Below.refl _ _).alloc (Nat.le_refl _) _⟩
  rw [List.take_zero, Nat.sub_zero, List.nil_append]
  unfold Nums
  rw [List.length_replicate]
  exact World.ownsRow_lit w (numCells (List.replicate n 0)).toArray n (Nat.le_refl _) (by unfold maxLen; omega) (by simp [numCells])
 case round =>
  obtain ⟨k, hk, rfl, hO, hb⟩ := hrel
  have HB1 : Hid (Below w.heap.size w wr) := hb
  have hml : (l.take k ++ List.replicate (n - k) (0 : Int)).length = n := by have := HLN.out; simp; omega
  have HO : Hid (Nums wr w.heap.size (.slice (some ⟨w.heap.size, 0, none⟩) n n) (l.take k ++ List.replicate (n - k) 0)) := hO
  by_cases hlt : k < n
  ·have q2 : (k : Int) < (n : Int) := by omega
   obtain ⟨g, off, rfl, hg, hc⟩ := HL.out k (by have := HLN.out; omega)
   rw [← hb.cell (p := ⟨_, _, none⟩) (Nat.lt_of_lt_of_le hg HB.out)] at hc
   have e1 := hO.cell k (by rw [hml]; exact hlt)
   have e2 := hO.frozen k
   have hS := hO.stored k (l.getD k 0)
   rw [fill_num (l.take k) (l.getD k 0) n k (by have := HLN.out; simp; omega) hlt, ← take_num l k (by have := HLN.out; omega)] at hS
   have HS : Hid (Nums (wr.setCell ⟨w.heap.size, k, none⟩ (.int .i64 (l.getD k 0))) w.heap.size (.slice (some ⟨w.heap.size, 0, none⟩) n n) (l.take (k + 1) ++ List.replicate (n - (k + 1)) 0)) := hS
   generalize (l.take k ++ List.replicate (n - k) (0 : Int)).getD k 0 = y at *
   generalize l.getD k 0 = x at *
   clear hO hS hml hb
   go_wp2_with fail
   go_roundw
   case rel => exact ⟨k + 1, by omega, by go_num, HS.out, HB1.out.setCell (Nat.le_refl _) _⟩
   case measure => simp [intOf]; omega
  ·obtain rfl : k = n := by omega
   have HF : Hid (Nums wr w.heap.size (.slice (some ⟨w.heap.size, 0, none⟩) k k) l) := by
    have h := HO.out
    rw [Nat.sub_self, List.replicate_zero, List.append_nil, List.take_of_length_le (by have := HLN.out; omega)] at h
    exact h
   clear hO hb
   go_wp2_with fail
   go_ret
   exact ⟨_, rfl, HF.out, HB1.out⟩
set_option maxHeartbeats 1000000 in
theorem eqIntS (l : List Int) (va vb : Value) (w : World) (B : Nat) (ha : NumsV w B va l) (hb : NumsV w B vb l) (hl : l.length ≤ 2097152) :
  Calls Try.prog 33 #[va, vb] w fun e w' => e = .returned (.bool true) ∧ Like w w' := by
 obtain ⟨A, ca, rfl, _, _, ha⟩ := ha
 obtain ⟨A', cb, rfl, _, _, hb⟩ := hb
 have HA : Hid (∀ j, j < l.length → ∃ g off, A = some ⟨g, off, none⟩ ∧ g < B ∧ _) := ha
 have HB : Hid (∀ j, j < l.length → ∃ g off, A' = some ⟨g, off, none⟩ ∧ g < B ∧ _) := hb
 have q1 : (l.length : Int) ≤ 2097152 := by omega
 clear ha hb hl
 generalize hn : l.length = n at *
 clear hn
 go_enter Try.func33, Try.ntmps33
 go_wp2
 go_loopw [5] (fun v5 wr => ∃ k : Nat, k ≤ n ∧ v5 = .int .i64 k ∧ Like w wr) (fun i _ => n - (intOf i).toNat)
 case atStart => exact ⟨0, by omega, rfl, Like.refl _⟩
 case round =>
  obtain ⟨k, hk, rfl, hL⟩ := hrel
  by_cases hlt : k < n
  ·have q2 : (k : Int) < (n : Int) := by omega
   obtain ⟨g, off, rfl, _, e1⟩ := HA.out k hlt
   obtain ⟨g', off', rfl, _, e2⟩ := HB.out k hlt
   rw [← cell?_heap hL.1] at e1 e2
   generalize l.getD k 0 = x at *
   go_wp2
   go_quiet (fail)
   go_wp2
   go_roundw
   case rel => exact ⟨k + 1, by omega, by go_num, hL.drewN _⟩
   case measure => simp [intOf]; omega
  ·have hkk : k = n := by omega
   subst hkk
   go_wp2
   go_ret
   exact ⟨rfl, hL⟩
set_option maxHeartbeats 1000000 in
theorem heldIntS (k base n : Nat) (v : Value) (w : World) (hv : Nums w base v (nmarks k n)) (hl : n ≤ 2097152) (h2 : k ≤ 100000000) :
  Calls Try.prog 39 #[v, .int .i64 (k : Int)] w fun e w' => e = .returned (.int .i64 ((k + n : Nat) : Int)) ∧ w = w' := by
 have hml := nmarks_length k n
 obtain ⟨A, ca, rfl, _, _, hc⟩ := hv.lies
 rw [hml] at hc
 have HC : Hid (∀ j, j < n → ∃ g off, A = some ⟨g, off, none⟩ ∧ g < w.heap.size ∧ _) := hc
 have q1 : (n : Int) ≤ 2097152 := by omega
 have q3 : (k : Int) ≤ 100000000 := by omega
 clear hv hl hc
 rw [hml]
 go_enter Try.func39, Try.ntmps39
 go_wp2
 go_loop [1, 5] (fun v1 v5 => ∃ j : Nat, j ≤ n ∧ v5 = .int .i64 j ∧ v1 = .int .i64 ((k + j : Nat) : Int)) (fun _ i => n - (intOf i).toNat)
 case atStart => exact ⟨0, by omega, rfl, rfl⟩
 case round =>
  obtain ⟨j, hj, rfl, rfl⟩ := hrel
  by_cases hlt : j < n
  ·have q2 : (j : Int) < (n : Int) := by omega
   obtain ⟨g, off, rfl, _, e1⟩ := HC.out j hlt
   rw [nmarks_get k n j hlt] at e1
   go_wp2
   go_round
   case rel => exact ⟨j + 1, by omega, by go_num, by go_num⟩
   case measure => simp [intOf]; omega
  ·have hkk : j = n := by omega
   subst hkk
   go_wp2
   go_ret
   exact ⟨rfl, rfl⟩
end Go.Proofs.Ytlhoonohpfpkbaa
namespace Go.Proofs.Ytlhoonohpfpkbaa
open Go.ChangeShapes Go.WideShapes Go.ChangeAt Go.RowKit Go.PlainAid
set_option linter.unusedVariables false
set_option maxHeartbeats 1000000 in
theorem markIntK (k base : Nat) (v : Value) (l : List Int) (w : World) (hv : Nums w base v l) (hl : l.length ≤ 2097152) (h2 : k ≤ 100000000) :
  Calls Try.prog 36 #[v, .int .i64 (k : Int)] w fun e w' => e = .returned (.int .i64 ((k + l.length : Nat) : Int)) ∧ Nums w' base v (nmarks k l.length) ∧ Below base w w' ∧ (∀ g, v.ownBlock ≠ some g → w'.heap[g]? = w.heap[g]?) := by
 have HV : Hid (Nums w base v l) := hv
 have hlt0 := hv.lt
 obtain ⟨A, ca, rfl, _, _⟩ := hv.shape
 have q1 : (l.length : Int) ≤ 2097152 := by omega
 have q3 : (k : Int) ≤ 100000000 := by omega
 clear hv hl
 generalize hn : l.length = n at *
 have HN : Hid (l.length = n) := hn
 clear hn
 go_enter Try.func36, Try.ntmps36
 go_wp2
 go_loopw [1, 5] (fun v1 v5 wr => ∃ j : Nat, j ≤ n ∧ v5 = .int .i64 j ∧ v1 = .int .i64 ((k + j : Nat) : Int) ∧ Nums wr base (.slice A n ca) (nmarked k l j) ∧ Below base w wr ∧ (∀ g, (Value.slice A n ca).ownBlock ≠ some g → wr.heap[g]? = w.heap[g]?)) (fun _ i _ => n - (intOf i).toNat)
 case atStart => exact ⟨0, by omega, rfl, rfl, by rw [nmarked_zero]; exact HV.out, Below.refl _ _, fun _ _ => rfl⟩
 case round =>
  obtain ⟨j, hj, rfl, rfl, hS, hB, hKp⟩ := hrel
  have HKP : Hid (∀ g, (Value.slice A n ca).ownBlock ≠ some g → wr.heap[g]? = w.heap[g]?) := hKp
  clear hKp
  have HS : Hid (Nums wr base (.slice A n ca) (nmarked k l j)) := hS
  have HB : Hid (Below base w wr) := hB
  clear hB
  by_cases hlt : j < n
  ·have q2 : (j : Int) < (n : Int) := by omega
   have hml : (nmarked k l j).length = n := by rw [nmarked_length _ _ _ (by rw [HN.out]; exact hj), HN.out]
   obtain ⟨g, rfl, hg, _⟩ := hS.block (by omega)
   have HG : Hid (base ≤ g) := hg
   have e1 := hS.cell j (by rw [hml]; exact hlt)
   have e2 := hS.frozen j
   have hS2 := hS.stored j ((k + j : Nat) : Int)
   rw [nmarked_set _ _ _ (by rw [HN.out]; exact hlt)] at hS2
   have HS2 : Hid (Nums (wr.setCell ⟨g, j, none⟩ (.int .i64 ((k + j : Nat) : Int))) base (.slice (some ⟨g, 0, none⟩) n ca) (nmarked k l (j + 1))) := hS2
   generalize (nmarked k l j).getD j 0 = x at *
   clear hS hS2 hml hg
   go_wp2_with fail
   go_roundw
   case rel => exact ⟨j + 1, by omega, by go_num, by go_num, by have := HS2.out; rwa [show ((k + j : Nat) : Int) = (k : Int) + (j : Int) by omega] at this, HB.out.setCell HG.out _, fun g' hg' => by rw [Below.heap_setCell _ _ _ _ (fun e => hg' (by rw [e]; rfl))]; exact HKP.out g' hg'⟩
   case measure => simp [intOf]; omega
  ·have hkk : j = n := by omega
   subst hkk
   clear hS
   go_wp2
   go_ret
   refine ⟨rfl, ?_, HB.out, HKP.out⟩
   have h := HS.out
   rw [← HN.out, nmarked_all, HN.out] at h
   exact h
theorem set_behind (A B : List (List Value)) (d j : Nat) (h : A.length = d) (r : List Value) : (A ++ B).set (d + j) r = A ++ B.set j r := by
 rw [List.set_append_right _ _ (by omega), h, Nat.add_sub_cancel_left]
set_option maxHeartbeats 2000000 in
theorem markEntryF (k base : Nat) (v : Value) (R : List (List Value)) (w : World) (hv : OwnF w base v R) (hl : R.length ≤ 1048576) (h1 : 1 ≤ k) (h2 : k ≤ 10000000) (hbase : base ≤ w.heap.size) :
  Calls Try.prog 35 #[v, .int .i64 (k : Int)] w fun e w' => e = .returned (.int .i64 ((k + 2 * R.length : Nat) : Int)) ∧ OwnF w' base v (newR (mkEnt k) R.length) ∧ Below base w w' ∧ (∀ g, g < w.heap.size → blkF v ≠ some g → w'.heap[g]? = w.heap[g]?) := by
 rcases hv with ⟨rfl, A, c, rfl, hA⟩ | ⟨h0, g, n0, c0, d, c, R0, hO, hn0, hdn, rfl, hc, hR⟩
 ·have HA : Hid (A = none → c = 0) := hA
  clear hA
  go_enter Try.func35, Try.ntmps35
  go_wp2_with fail
  go_loopw [1, 5] (fun v1 v5 wr => v5 = .int .i64 0 ∧ v1 = .int .i64 (k : Int) ∧ w = wr) (fun _ i _ => 0)
  case atStart => exact ⟨rfl, rfl, rfl⟩
  case round =>
   obtain ⟨rfl, rfl, rfl⟩ := hrel
   go_wp2_with fail
   go_ret
   exact ⟨by simp, .inl ⟨rfl, A, c, rfl, HA.out⟩, Below.refl _ _, fun _ _ _ => rfl⟩
 have hlt0 : (R0.take d).length = d := by rw [List.length_take]; omega
 have HT : Hid ((R0.take d).length = d) := hlt0
 have HR0 : Hid (R0 = R0.take d ++ R) := by unfold Hid; rw [hR]; exact (List.take_append_drop d R0).symm
 have HNL : Hid (R0.length = n0) := hn0.symm
 have HV : Hid (Owns w base 71 2 (.slice (some ⟨g, 0, none⟩) n0 c0) (R0.take d ++ R)) := by unfold Hid; rw [← HR0.out]; exact hO
 have HG : Hid (base ≤ g) := (hO.lt g rfl).1
 have HC : Hid (R.length ≤ c) := hc
 have HP : Hid (0 < R.length) := h0
 have q1 : (R.length : Int) ≤ 1048576 := by omega
 have q3 : (k : Int) ≤ 10000000 := by omega
 have HD : Hid (d + R.length = n0) := hdn
 clear hO hl hn0 hR hlt0 hdn hc h0
 generalize R0.take d = T0 at *
 clear HNL
 generalize hn : R.length = n at *
 go_enter Try.func35, Try.ntmps35
 go_wp2_with fail
 go_loopw [1, 5] (fun v1 v5 wr => ∃ j : Nat, j ≤ n ∧ v5 = .int .i64 (j : Int) ∧ v1 = .int .i64 ((k + 2 * j : Nat) : Int) ∧ Owns wr base 71 2 (.slice (some ⟨g, 0, none⟩) n0 c0) (T0 ++ partR (mkEnt k) R j) ∧ Below base w wr ∧ (∀ b, b < w.heap.size → b ≠ g → wr.heap[b]? = w.heap[b]?)) (fun _ i _ => n - (intOf i).toNat)
 case atStart => exact ⟨0, by omega, rfl, by simp, by rw [partR_zero]; exact HV.out, Below.refl _ _, fun _ _ _ => rfl⟩
 case round =>
  obtain ⟨j, hj, rfl, rfl, hS, hB, hK⟩ := hrel
  have HS : Hid (Owns wr base 71 2 (.slice (some ⟨g, 0, none⟩) n0 c0) (T0 ++ partR (mkEnt k) R j)) := hS
  have HB : Hid (Below base w wr) := hB
  have HK : Hid (∀ b, b < w.heap.size → b ≠ g → wr.heap[b]? = w.heap[b]?) := hK
  clear hS hB hK
  by_cases hlt : j < n
  ·have q2 : (j : Int) < (n : Int) := by omega
   have hpl : (partR (mkEnt k) R j).length = n := by rw [partR_length _ _ _ (by omega), hn]
   have hdj : d + j < n0 := by have := HD.out; omega
   have HN2 : Hid ((T0 ++ partR (mkEnt k) R j).length = n0) := by unfold Hid; rw [List.length_append, hpl, HT.out]; exact HD.out
   have hjl : d + j < (T0 ++ partR (mkEnt k) R j).length := by rw [HN2.out]; exact hdj
   have hO0 : Owns wr base 71 2 (.slice (some ⟨g, 0, none⟩) n0 c0) ((T0 ++ partR (mkEnt k) R j).set (d + j) ((T0 ++ partR (mkEnt k) R j)[d + j]'hjl)) := by rw [set_self]; exact HS.out
   have hrl : ((T0 ++ partR (mkEnt k) R j)[d + j]'hjl).length = 2 := HS.out.1 _ (List.getElem_mem _)
   have HF : Hid ((T0 ++ partR (mkEnt k) R j).set (d + j) (mkEnt k j) = T0 ++ partR (mkEnt k) R (j + 1)) := by unfold Hid; rw [set_behind _ _ _ _ HT.out, partR_set _ _ _ (by omega)]
   obtain ⟨y0, y1, hy⟩ : ∃ y0 y1, (T0 ++ partR (mkEnt k) R j)[d + j]'hjl = [y0, y1] := by
    match hh : (T0 ++ partR (mkEnt k) R j)[d + j]'hjl, hrl with
    | [y0, y1], _ => exact ⟨y0, y1, rfl⟩
   rw [hy] at hO0
   have hmk : mkEnt k j = [.int .i64 (((k + 2 * j : Nat) : Int)), .string (mark (k + 2 * j + 1))] := rfl
   rw [hmk] at HF
   have HM : Hid (((k + 2 * (j + 1) : Nat) : Int) = ((k + 2 * j : Nat) : Int) + 2) := by unfold Hid; omega
   have q4 : ((k + 2 * j : Nat) : Int) ≤ 20000000 := by omega
   have HM1 : Hid (1 ≤ k + 2 * j) := by unfold Hid; omega
   have HM2 : Hid (k + 2 * j ≤ 20000000) := by unfold Hid; omega
   clear hmk hpl hrl hy
   generalize k + 2 * j = m at *
   generalize T0 ++ partR (mkEnt k) R j = P at *
   have hsz := HB.out.size
   have hgw : g < wr.heap.size := (hO0.lt g rfl).2
   have HDJ : Hid ((d + j) * 2 = d * 2 + j * 2) := by unfold Hid; omega
   obtain ⟨z0, d0⟩ := hO0.cellAt2 HN2.out hdj 0 (by omega)
   have f0 := hO0.free2 HN2.out (d * 2 + j * 2)
   rw [Nat.add_zero, HDJ.out] at d0
   have p0 := (hO0).pokeAt HN2.out hdj 0 (by omega) (.int .i64 ((m : Int)))
   rw [Nat.add_zero, HDJ.out] at p0
   have Q0 : Hid (Owns ((wr).setCell ⟨g, d * 2 + j * 2, none⟩ (.int .i64 ((m : Int)))) base 71 2 (.slice (some ⟨g, 0, none⟩) n0 c0) (P.set (d + j) [.int .i64 ((m : Int)), y1])) := p0
   have D0 : Hid (Below base w ((wr).setCell ⟨g, d * 2 + j * 2, none⟩ (.int .i64 ((m : Int))))) := (HB.out).setCell (show base ≤ g from HG.out) _
   have E0 : Hid (∀ b, b < w.heap.size → b ≠ g → ((wr).setCell ⟨g, d * 2 + j * 2, none⟩ (.int .i64 ((m : Int)))).heap[b]? = w.heap[b]?) := fun b hb hne => by rw [Below.heap_setCell _ _ _ _ hne]; exact HK.out b hb hne
   clear p0
   have hsz0 : base ≤ ((wr).setCell ⟨g, d * 2 + j * 2, none⟩ (.int .i64 ((m : Int)))).heap.size := Nat.le_trans hbase D0.out.size
   have hwz0 : w.heap.size ≤ ((wr).setCell ⟨g, d * 2 + j * 2, none⟩ (.int .i64 ((m : Int)))).heap.size := D0.out.size
   have c1 : Calls Try.prog 37 #[.int .i64 ((m : Int) + 1)] ((wr).setCell ⟨g, d * 2 + j * 2, none⟩ (.int .i64 ((m : Int)))) fun e w' => e = .returned (.string (mark (m + 1))) ∧ Below ((wr).setCell ⟨g, d * 2 + j * 2, none⟩ (.int .i64 ((m : Int)))).heap.size ((wr).setCell ⟨g, d * 2 + j * 2, none⟩ (.int .i64 ((m : Int)))) w' := by
    have h := markText (m + 1) ((wr).setCell ⟨g, d * 2 + j * 2, none⟩ (.int .i64 ((m : Int)))) (by have := HM1.out; omega) (by have := HM2.out; omega)
    rw [show ((m + 1 : Nat) : Int) = (m : Int) + 1 by omega] at h
    exact h
   clear hjl
   go_wp2_with fail
   refine c1.mono ?_
   rintro e x1 ⟨rfl, hx1⟩
   have O1 : Hid (Owns x1 base 71 2 (.slice (some ⟨g, 0, none⟩) n0 c0) (P.set (d + j) [.int .i64 ((m : Int)), y1])) := Q0.out.on hx1
   have B1 : Hid (Below base w x1) := (D0.out).trans (hx1.mono hsz0)
   have K1 : Hid (∀ b, b < w.heap.size → b ≠ g → x1.heap[b]? = w.heap[b]?) := fun b hb hne => (hx1.block b (Nat.lt_of_lt_of_le hb hwz0)).trans (E0.out b hb hne)
   have hwz : w.heap.size ≤ x1.heap.size := B1.out.size
   clear hx1 c1
   obtain ⟨z1, d1⟩ := O1.out.cellAt2 HN2.out hdj 1 (by omega)
   rw [HDJ.out] at d1
   have f1 := O1.out.free2 HN2.out (d * 2 + j * 2 + 1)
   have p1 := (O1.out).pokeAt HN2.out hdj 1 (by omega) (.string (mark (m + 1)))
   rw [HDJ.out] at p1
   have Q1 : Hid (Owns ((x1).setCell ⟨g, d * 2 + j * 2 + 1, none⟩ (.string (mark (m + 1)))) base 71 2 (.slice (some ⟨g, 0, none⟩) n0 c0) (P.set (d + j) [.int .i64 ((m : Int)), .string (mark (m + 1))])) := p1
   have D1 : Hid (Below base w ((x1).setCell ⟨g, d * 2 + j * 2 + 1, none⟩ (.string (mark (m + 1))))) := (B1.out).setCell (show base ≤ g from HG.out) _
   have E1 : Hid (∀ b, b < w.heap.size → b ≠ g → ((x1).setCell ⟨g, d * 2 + j * 2 + 1, none⟩ (.string (mark (m + 1)))).heap[b]? = w.heap[b]?) := fun b hb hne => by rw [Below.heap_setCell _ _ _ _ hne]; exact K1.out b hb hne
   clear p1
   go_wp2_with fail
   go_roundw
   case rel => exact ⟨j + 1, by omega, by go_num, by rw [HM.out]; go_num, by rw [← HF.out]; exact Q1.out, D1.out, E1.out⟩
   case measure => simp [intOf]; omega
  ·obtain rfl : j = n := by omega
   go_wp2_with fail
   go_ret
   refine ⟨rfl, ?_, HB.out, fun b hb hne => HK.out b hb fun e => hne ?_⟩
   ·have := HS.out
    rw [← hn, partR_all] at this
    refine .inr ⟨by rw [newR_length]; exact HP.out, g, n0, c0, d, c, _, this, ?_, ?_, ?_, ?_, ?_⟩
    ·rw [List.length_append, newR_length, HT.out, hn]; exact HD.out.symm
    ·rw [newR_length]; exact HD.out
    ·rw [newR_length]
    ·rw [newR_length]; exact HC.out
    ·rw [← hn, ← HT.out, List.drop_left]
   ·subst e
    obtain ⟨q, rfl⟩ : ∃ q, j = q + 1 := ⟨j - 1, by have := HP.out; omega⟩
    rfl
end Go.Proofs.Ytlhoonohpfpkbaa
namespace Go.Proofs.Ytlhoonohpfpkbaa
open Go.ChangeShapes Go.WideShapes Go.ChangeAt Go.RowKit Go.PlainAid
set_option linter.unusedVariables false
theorem belowA2 (w : World) (a b : Obj) : Below w.heap.size w ((w.alloc a).alloc b) := ((Below.refl _ w).alloc (Nat.le_refl _) a).alloc (by simp) b
theorem belowA3 (w : World) (a b c : Obj) : Below w.heap.size w (((w.alloc a).alloc b).alloc c) := (((Below.refl _ w).alloc (Nat.le_refl _) a).alloc (by simp) b).alloc (by simp; omega) c
set_option maxHeartbeats 1000000 in
theorem szIntS (l : List Int) (A : Option Addr) (c : Nat) (left : Int) (w : World) (hn : l.length ≤ maxLen) (h0 : 0 ≤ left) (h1 : left ≤ 1048576) :
  Calls Try.prog 21 #[.slice A l.length c, .int .i64 left] w fun e w' => (∃ r, e = .returned (.int .i64 r) ∧ Hid (r = -1 ∨ 0 ≤ r ∧ r + (l.length : Int) = left)) ∧ w = w' := by
 unfold maxLen at hn
 generalize l.length = n at *
 have q1 : (n : Int) ≤ 9223372036854775807 := by omega
 have w2 : IntKind.i64.wrap (left - (n : Int)) = left - (n : Int) := by rw [IntKind.wrap_i64]; omega
 by_cases hl : left < (n : Int)
 ·have HL : Hid (left < (n : Int)) := hl
  have q2 : left - (n : Int) < 0 := by omega
  clear hl
  go_enter Try.func21, Try.ntmps21
  go_wp2
  go_ret
  exact ⟨⟨_, rfl, .inl rfl⟩, rfl⟩
 ·have HL : Hid ((n : Int) ≤ left) := by unfold Hid; omega
  have q3 : decide (left - (n : Int) < 0) = false := decide_eq_false (by omega)
  have q4 : ¬ left - (n : Int) < 0 := by omega
  clear hl
  go_enter Try.func21, Try.ntmps21
  go_wp2
  go_ret
  exact ⟨⟨_, rfl, .inr ⟨by have := HL.out; omega, by omega⟩⟩, rfl⟩
set_option maxHeartbeats 4000000 in
theorem szCore (x : Cor) (v : Value) (w : World) (B : Nat) (left : Int) (h0 : 0 ≤ left) (h1 : left ≤ 1048576) (hv : CorV w B v x) (hf : FitsC x) (hB : B ≤ w.heap.size) :
  Calls Try.prog 6 #[v, .int .i64 left] w fun e w' => ∃ r : Int, e = .returned (.int .i64 r) ∧ Hid (r = -1 ∨ 0 ≤ r ∧ r + (wtC x : Int) = left) ∧ Below w.heap.size w w' := by
 obtain ⟨ul, uy, un, um, rfl, hl, hy, hn, hm⟩ := hv
 unfold vCo
 obtain ⟨A0, c0, rfl, _⟩ := ent_look hl
 obtain ⟨A1, c1, rfl, _⟩ := hy
 obtain ⟨A2, c2, rfl, _⟩ := hn
 obtain ⟨A3, c3, rfl, _⟩ := hm
 have HF : Hid (FitsC x) := hf
 have HB : Hid (B ≤ w.heap.size) := hB
 have HL : Hid (Lies w B 2 (.slice A0 x.log.length c0) (entR x.log)) := hl
 have HW : Hid (wtC x = x.log.length + wtE x.log + x.yes.length + x.nxt.length + x.mat.length) := rfl
 have K0 := Hid.mk (Blk.new w #[.int .i64 x.id, .int .i64 x.peers, .int .i64 x.term, .int .i64 x.vote, .int .i64 x.role, .int .i64 x.lead, .int .i64 x.base, .int .i64 x.bterm, .slice A0 x.log.length c0, .int .i64 x.commit, .slice A1 x.yes.length c1, .slice A2 x.nxt.length c2, .slice A3 x.mat.length c3] 25)
 have B1 : Hid (Below w.heap.size w (w.alloc (.cells #[.int .i64 x.id, .int .i64 x.peers, .int .i64 x.term, .int .i64 x.vote, .int .i64 x.role, .int .i64 x.lead, .int .i64 x.base, .int .i64 x.bterm, .slice A0 x.log.length c0, .int .i64 x.commit, .slice A1 x.yes.length c1, .slice A2 x.nxt.length c2, .slice A3 x.mat.length c3] 25))) := (Below.refl _ _).alloc (Nat.le_refl _) _
 clear hl hf hB
 go_enter Try.func6, Try.ntmps6
 go_wp2_with fail
 generalize hw1 : w.alloc (.cells #[.int .i64 x.id, .int .i64 x.peers, .int .i64 x.term, .int .i64 x.vote, .int .i64 x.role, .int .i64 x.lead, .int .i64 x.base, .int .i64 x.bterm, .slice A0 x.log.length c0, .int .i64 x.commit, .slice A1 x.yes.length c1, .slice A2 x.nxt.length c2, .slice A3 x.mat.length c3] 25) = w1 at *
 have d1 := szEntryS x.log (.slice A0 x.log.length c0) left w1 B (HL.out.on (B1.out.mono HB.out)) HF.out.d HF.out.n h0 h1 (Nat.le_trans HB.out B1.out.size)
 refine d1.mono ?_
 rintro e w2 ⟨r1, rfl, hr1, hb2⟩
 have R1 : Hid (r1 = -1 ∨ 0 ≤ r1 ∧ r1 + ((x.log.length + wtE x.log : Nat) : Int) = left) := hr1
 have B2 : Hid (Below w.heap.size w w2) := B1.out.trans (hb2.mono B1.out.size)
 have K2 := Hid.mk (K0.out.on hb2 K0.out.lt)
 clear hr1 hb2 hw1 K0 d1
 rcases R1.out with rfl | ⟨hp1, hq1⟩
 ·go_wp2_with fail
  go_ret
  exact ⟨-1, rfl, .inl rfl, B2.out⟩
 have q1 : decide (r1 < 0) = false := decide_eq_false (by omega)
 have HQ1 : Hid (r1 + ((x.log.length + wtE x.log : Nat) : Int) = left) := hq1
 have g10 := K2.out.cell 10 _ rfl
 have g11 := K2.out.cell 11 _ rfl
 have g12 := K2.out.cell 12 _ rfl
 have qr : r1 ≤ 1048576 := by omega
 clear hq1
 go_wp2_with fail
 refine (szIntS x.yes A1 c1 r1 w2 HF.out.y hp1 qr).mono ?_
 rintro e w' ⟨⟨r2, rfl, HR2⟩, rfl⟩
 rcases HR2.out with rfl | ⟨hp2, hq2⟩
 ·go_wp2_with fail
  go_ret
  exact ⟨-1, rfl, .inl rfl, B2.out⟩
 have q2 : decide (r2 < 0) = false := decide_eq_false (by omega)
 have HQ2 : Hid (r2 + (x.yes.length : Int) = r1) := hq2
 have qr2 : r2 ≤ 1048576 := by omega
 clear hq2 HR2
 go_wp2_with fail
 refine (szIntS x.nxt A2 c2 r2 w2 HF.out.q hp2 qr2).mono ?_
 rintro e w' ⟨⟨r3, rfl, HR3⟩, rfl⟩
 rcases HR3.out with rfl | ⟨hp3, hq3⟩
 ·go_wp2_with fail
  go_ret
  exact ⟨-1, rfl, .inl rfl, B2.out⟩
 have q3 : decide (r3 < 0) = false := decide_eq_false (by omega)
 have HQ3 : Hid (r3 + (x.nxt.length : Int) = r2) := hq3
 have qr3 : r3 ≤ 1048576 := by omega
 clear hq3 HR3
 go_wp2_with fail
 refine (szIntS x.mat A3 c3 r3 w2 HF.out.m hp3 qr3).mono ?_
 rintro e w' ⟨⟨r4, rfl, HR4⟩, rfl⟩
 rcases HR4.out with rfl | ⟨hp4, hq4⟩
 ·go_wp2_with fail
  go_ret
  exact ⟨-1, rfl, .inl rfl, B2.out⟩
 have q4 : decide (r4 < 0) = false := decide_eq_false (by omega)
 have HQ4 : Hid (r4 + (x.mat.length : Int) = r3) := hq4
 clear hq4 HR4
 go_wp2_with fail
 go_ret
 refine ⟨r4, rfl, .inr ⟨hp4, ?_⟩, B2.out⟩
 have := HQ1.out
 have := HQ2.out
 have := HQ3.out
 have := HQ4.out
 rw [HW.out]
 omega
set_option maxHeartbeats 16000000 in
theorem toCore (x : Cor) (v : Value) (w : World) (B : Nat) (hv : CorV w B v x) (hw : wtC x ≤ 1048576) (hB : B ≤ w.heap.size) :
  Calls Try.prog 8 #[v] w fun e w' => ∃ u, e = .returned u ∧ CorO w' w.heap.size u x ∧ Below w.heap.size w w' := by
 obtain ⟨ul, uy, un, um, rfl, hl, hy, hn, hm⟩ := hv
 unfold wtC at hw
 unfold vCo
 have HB : Hid (B ≤ w.heap.size) := hB
 have HL : Hid (Lies w B 2 ul (entR x.log)) := hl
 have HY : Hid (NumsV w B uy x.yes) := hy
 have HN : Hid (NumsV w B un x.nxt) := hn
 have HM : Hid (NumsV w B um x.mat) := hm
 have L0 : Hid (x.log.length ≤ 1048576) := by unfold Hid; omega
 have L1 : Hid (x.yes.length ≤ 1048576) := by unfold Hid; omega
 have L2 : Hid (x.nxt.length ≤ 1048576) := by unfold Hid; omega
 have L3 : Hid (x.mat.length ≤ 1048576) := by unfold Hid; omega
 clear hl hy hn hm hw hB
 go_enter Try.func8, Try.ntmps8
 go_wp2_with fail
 have hb0 := belowA3 w (.cells #[.int .i64 x.id, .int .i64 x.peers, .int .i64 x.term, .int .i64 x.vote, .int .i64 x.role, .int .i64 x.lead, .int .i64 x.base, .int .i64 x.bterm, ul, .int .i64 x.commit, uy, un, um] 25) (.cells #[.int .i64 0, .int .i64 0, .int .i64 0, .int .i64 0, .int .i64 0, .int .i64 0, .int .i64 0, .int .i64 0, .slice none 0 0, .int .i64 0, .slice none 0 0, .slice none 0 0, .slice none 0 0] 29) (.cells #[.int .i64 x.id, .int .i64 x.peers, .int .i64 x.term, .int .i64 x.vote, .int .i64 x.role, .int .i64 x.lead, .int .i64 x.base, .int .i64 x.bterm, .slice none 0 0, .int .i64 0, .slice none 0 0, .slice none 0 0, .slice none 0 0] 29)
 have bI := ((Blk.new w #[.int .i64 x.id, .int .i64 x.peers, .int .i64 x.term, .int .i64 x.vote, .int .i64 x.role, .int .i64 x.lead, .int .i64 x.base, .int .i64 x.bterm, ul, .int .i64 x.commit, uy, un, um] 25).alloc (.cells #[.int .i64 0, .int .i64 0, .int .i64 0, .int .i64 0, .int .i64 0, .int .i64 0, .int .i64 0, .int .i64 0, .slice none 0 0, .int .i64 0, .slice none 0 0, .slice none 0 0, .slice none 0 0] 29)).alloc (.cells #[.int .i64 x.id, .int .i64 x.peers, .int .i64 x.term, .int .i64 x.vote, .int .i64 x.role, .int .i64 x.lead, .int .i64 x.base, .int .i64 x.bterm, .slice none 0 0, .int .i64 0, .slice none 0 0, .slice none 0 0, .slice none 0 0] 29)
 have bR := (Blk.new (w.alloc (.cells #[.int .i64 x.id, .int .i64 x.peers, .int .i64 x.term, .int .i64 x.vote, .int .i64 x.role, .int .i64 x.lead, .int .i64 x.base, .int .i64 x.bterm, ul, .int .i64 x.commit, uy, un, um] 25)) #[.int .i64 0, .int .i64 0, .int .i64 0, .int .i64 0, .int .i64 0, .int .i64 0, .int .i64 0, .int .i64 0, .slice none 0 0, .int .i64 0, .slice none 0 0, .slice none 0 0, .slice none 0 0] 29).alloc (.cells #[.int .i64 x.id, .int .i64 x.peers, .int .i64 x.term, .int .i64 x.vote, .int .i64 x.role, .int .i64 x.lead, .int .i64 x.base, .int .i64 x.bterm, .slice none 0 0, .int .i64 0, .slice none 0 0, .slice none 0 0, .slice none 0 0] 29)
 have bO := Blk.new ((w.alloc (.cells #[.int .i64 x.id, .int .i64 x.peers, .int .i64 x.term, .int .i64 x.vote, .int .i64 x.role, .int .i64 x.lead, .int .i64 x.base, .int .i64 x.bterm, ul, .int .i64 x.commit, uy, un, um] 25)).alloc (.cells #[.int .i64 0, .int .i64 0, .int .i64 0, .int .i64 0, .int .i64 0, .int .i64 0, .int .i64 0, .int .i64 0, .slice none 0 0, .int .i64 0, .slice none 0 0, .slice none 0 0, .slice none 0 0] 29)) #[.int .i64 x.id, .int .i64 x.peers, .int .i64 x.term, .int .i64 x.vote, .int .i64 x.role, .int .i64 x.lead, .int .i64 x.base, .int .i64 x.bterm, .slice none 0 0, .int .i64 0, .slice none 0 0, .slice none 0 0, .slice none 0 0] 29
 simp only [World.size_alloc] at bI bR bO
 generalize ((w.alloc (.cells #[.int .i64 x.id, .int .i64 x.peers, .int .i64 x.term, .int .i64 x.vote, .int .i64 x.role, .int .i64 x.lead, .int .i64 x.base, .int .i64 x.bterm, ul, .int .i64 x.commit, uy, un, um] 25)).alloc (.cells #[.int .i64 0, .int .i64 0, .int .i64 0, .int .i64 0, .int .i64 0, .int .i64 0, .int .i64 0, .int .i64 0, .slice none 0 0, .int .i64 0, .slice none 0 0, .slice none 0 0, .slice none 0 0] 29)).alloc (.cells #[.int .i64 x.id, .int .i64 x.peers, .int .i64 x.term, .int .i64 x.vote, .int .i64 x.role, .int .i64 x.lead, .int .i64 x.base, .int .i64 x.bterm, .slice none 0 0, .int .i64 0, .slice none 0 0, .slice none 0 0, .slice none 0 0] 29) = W at *
 have B0 : Hid (Below w.heap.size w W) := hb0
 have KI : Hid (Blk W w.heap.size #[.int .i64 x.id, .int .i64 x.peers, .int .i64 x.term, .int .i64 x.vote, .int .i64 x.role, .int .i64 x.lead, .int .i64 x.base, .int .i64 x.bterm, ul, .int .i64 x.commit, uy, un, um] 25) := bI
 have KR : Hid (Blk W (w.heap.size + 1) #[.int .i64 0, .int .i64 0, .int .i64 0, .int .i64 0, .int .i64 0, .int .i64 0, .int .i64 0, .int .i64 0, .slice none 0 0, .int .i64 0, .slice none 0 0, .slice none 0 0, .slice none 0 0] 29) := bR
 have KO : Hid (Blk W (w.heap.size + 1 + 1) #[.int .i64 x.id, .int .i64 x.peers, .int .i64 x.term, .int .i64 x.vote, .int .i64 x.role, .int .i64 x.lead, .int .i64 x.base, .int .i64 x.bterm, .slice none 0 0, .int .i64 0, .slice none 0 0, .slice none 0 0, .slice none 0 0] 29) := bO
 have hlt := bO.lt
 have HLT : Hid (w.heap.size + 1 + 1 < W.heap.size) := hlt
 clear hb0 bI bR bO hlt
 refine (toEntryS x.log ul W B (HL.out.on (B0.out.mono HB.out)) L0.out (Nat.le_trans HB.out B0.out.size)).mono ?_
 rintro e W1 ⟨u0, rfl, hO, hb⟩
 obtain ⟨A0, m0, k0, rfl⟩ := hO.shape
 have B1 : Hid (Below w.heap.size w W1) := B0.out.trans (hb.mono B0.out.size)
 have KI1 : Hid (Blk W1 w.heap.size #[.int .i64 x.id, .int .i64 x.peers, .int .i64 x.term, .int .i64 x.vote, .int .i64 x.role, .int .i64 x.lead, .int .i64 x.base, .int .i64 x.bterm, ul, .int .i64 x.commit, uy, un, um] 25) := KI.out.on hb KI.out.lt
 have KR1 : Hid (Blk W1 (w.heap.size + 1) #[.int .i64 0, .int .i64 0, .int .i64 0, .int .i64 0, .int .i64 0, .int .i64 0, .int .i64 0, .int .i64 0, .slice none 0 0, .int .i64 0, .slice none 0 0, .slice none 0 0, .slice none 0 0] 29) := KR.out.on hb KR.out.lt
 have KO1 : Hid (Blk W1 (w.heap.size + 1 + 1) #[.int .i64 x.id, .int .i64 x.peers, .int .i64 x.term, .int .i64 x.vote, .int .i64 x.role, .int .i64 x.lead, .int .i64 x.base, .int .i64 x.bterm, .slice none 0 0, .int .i64 0, .slice none 0 0, .slice none 0 0, .slice none 0 0] 29) := KO.out.on hb KO.out.lt
 have P1 : Hid (OwnF W1 (w.heap.size + 1 + 1 + 1) (.slice A0 m0 k0) (entR x.log)) := (hO.mono (show w.heap.size + 1 + 1 + 1 ≤ _ from HLT.out)).toF
 clear hO hb KI KR KO
 have i9 := KI1.out.cell 9 _ rfl
 have i10 := KI1.out.cell 10 _ rfl
 have c8 := KO1.out.cell 8 _ rfl
 have f8 := KO1.out.free 8
 have c9 := (KO1.out.set 8 (.slice A0 m0 k0)).cell 9 _ rfl
 have f9 := (KO1.out.set 8 (.slice A0 m0 k0)).free 9
 obtain ⟨Y1, hY1⟩ : ∃ Y1, Y1 = ((W1.setCell ⟨w.heap.size + 1 + 1, 8, none⟩ (.slice A0 m0 k0)).setCell ⟨w.heap.size + 1 + 1, 9, none⟩ (.int .i64 x.commit)) := ⟨_, rfl⟩
 have KO1' : Hid (Blk Y1 (w.heap.size + 1 + 1) #[.int .i64 x.id, .int .i64 x.peers, .int .i64 x.term, .int .i64 x.vote, .int .i64 x.role, .int .i64 x.lead, .int .i64 x.base, .int .i64 x.bterm, .slice A0 m0 k0, .int .i64 x.commit, .slice none 0 0, .slice none 0 0, .slice none 0 0] 29) := by unfold Hid; rw [hY1]; exact ((KO1.out.set 8 (.slice A0 m0 k0)).set 9 (.int .i64 x.commit))
 have KI1' : Hid (Blk Y1 w.heap.size #[.int .i64 x.id, .int .i64 x.peers, .int .i64 x.term, .int .i64 x.vote, .int .i64 x.role, .int .i64 x.lead, .int .i64 x.base, .int .i64 x.bterm, ul, .int .i64 x.commit, uy, un, um] 25) := by unfold Hid; rw [hY1]; exact ((KI1.out.other (show w.heap.size ≠ w.heap.size + 1 + 1 by omega) 8 (.slice A0 m0 k0)).other (show w.heap.size ≠ w.heap.size + 1 + 1 by omega) 9 (.int .i64 x.commit))
 have KR1' : Hid (Blk Y1 (w.heap.size + 1) #[.int .i64 0, .int .i64 0, .int .i64 0, .int .i64 0, .int .i64 0, .int .i64 0, .int .i64 0, .int .i64 0, .slice none 0 0, .int .i64 0, .slice none 0 0, .slice none 0 0, .slice none 0 0] 29) := by unfold Hid; rw [hY1]; exact ((KR1.out.other (show w.heap.size + 1 ≠ w.heap.size + 1 + 1 by omega) 8 (.slice A0 m0 k0)).other (show w.heap.size + 1 ≠ w.heap.size + 1 + 1 by omega) 9 (.int .i64 x.commit))
 have B1' : Hid (Below w.heap.size w Y1) := by unfold Hid; rw [hY1]; exact ((B1.out.setCell (show w.heap.size ≤ w.heap.size + 1 + 1 by omega) (.slice A0 m0 k0) (p := ⟨_, 8, none⟩)).setCell (show w.heap.size ≤ w.heap.size + 1 + 1 by omega) (.int .i64 x.commit) (p := ⟨_, 9, none⟩))
 have P1' : Hid (OwnF Y1 (w.heap.size + 1 + 1 + 1) (.slice A0 m0 k0) (entR x.log)) := by unfold Hid; rw [hY1]; exact ((P1.out.low (show w.heap.size + 1 + 1 < w.heap.size + 1 + 1 + 1 by omega)).low (show w.heap.size + 1 + 1 < w.heap.size + 1 + 1 + 1 by omega))
 clear KO1 KI1 KR1 B1 P1
 go_wp2_with fail
 rw [← hY1]
 clear hY1 c8 f8 c9 f9 i9 i10
 have HZ1 : Hid (w.heap.size + 1 + 1 + 1 ≤ Y1.heap.size) := KO1'.out.lt
 refine (toIntS x.yes uy Y1 B (HY.out.on (B1'.out.mono HB.out)) L1.out (Nat.le_trans HB.out B1'.out.size)).mono ?_
 rintro e W2 ⟨u1, rfl, hO, hb⟩
 obtain ⟨A1, k1, hu, -⟩ := hO.shape
 generalize x.yes.length = m1 at hu
 subst hu
 have B2 : Hid (Below w.heap.size w W2) := B1'.out.trans (hb.mono B1'.out.size)
 have KI2 : Hid (Blk W2 w.heap.size #[.int .i64 x.id, .int .i64 x.peers, .int .i64 x.term, .int .i64 x.vote, .int .i64 x.role, .int .i64 x.lead, .int .i64 x.base, .int .i64 x.bterm, ul, .int .i64 x.commit, uy, un, um] 25) := KI1'.out.on hb KI1'.out.lt
 have KR2 : Hid (Blk W2 (w.heap.size + 1) #[.int .i64 0, .int .i64 0, .int .i64 0, .int .i64 0, .int .i64 0, .int .i64 0, .int .i64 0, .int .i64 0, .slice none 0 0, .int .i64 0, .slice none 0 0, .slice none 0 0, .slice none 0 0] 29) := KR1'.out.on hb KR1'.out.lt
 have KO2 : Hid (Blk W2 (w.heap.size + 1 + 1) #[.int .i64 x.id, .int .i64 x.peers, .int .i64 x.term, .int .i64 x.vote, .int .i64 x.role, .int .i64 x.lead, .int .i64 x.base, .int .i64 x.bterm, .slice A0 m0 k0, .int .i64 x.commit, .slice none 0 0, .slice none 0 0, .slice none 0 0] 29) := KO1'.out.on hb KO1'.out.lt
 have P1 : Hid (OwnF W2 (w.heap.size + 1 + 1 + 1) (.slice A0 m0 k0) (entR x.log)) := P1'.out.on hb
 have P2 : Hid (Nums W2 (w.heap.size + 1 + 1 + 1) (.slice A1 m1 k1) x.yes) := hO.mono (show w.heap.size + 1 + 1 + 1 ≤ _ from HZ1.out)
 clear hO hb KI1' KR1' KO1' P1' B1' HZ1
 have i11 := KI2.out.cell 11 _ rfl
 have c10 := KO2.out.cell 10 _ rfl
 have f10 := KO2.out.free 10
 obtain ⟨Y2, hY2⟩ : ∃ Y2, Y2 = (W2.setCell ⟨w.heap.size + 1 + 1, 10, none⟩ (.slice A1 m1 k1)) := ⟨_, rfl⟩
 have KO2' : Hid (Blk Y2 (w.heap.size + 1 + 1) #[.int .i64 x.id, .int .i64 x.peers, .int .i64 x.term, .int .i64 x.vote, .int .i64 x.role, .int .i64 x.lead, .int .i64 x.base, .int .i64 x.bterm, .slice A0 m0 k0, .int .i64 x.commit, .slice A1 m1 k1, .slice none 0 0, .slice none 0 0] 29) := by unfold Hid; rw [hY2]; exact (KO2.out.set 10 (.slice A1 m1 k1))
 have KI2' : Hid (Blk Y2 w.heap.size #[.int .i64 x.id, .int .i64 x.peers, .int .i64 x.term, .int .i64 x.vote, .int .i64 x.role, .int .i64 x.lead, .int .i64 x.base, .int .i64 x.bterm, ul, .int .i64 x.commit, uy, un, um] 25) := by unfold Hid; rw [hY2]; exact (KI2.out.other (show w.heap.size ≠ w.heap.size + 1 + 1 by omega) 10 (.slice A1 m1 k1))
 have KR2' : Hid (Blk Y2 (w.heap.size + 1) #[.int .i64 0, .int .i64 0, .int .i64 0, .int .i64 0, .int .i64 0, .int .i64 0, .int .i64 0, .int .i64 0, .slice none 0 0, .int .i64 0, .slice none 0 0, .slice none 0 0, .slice none 0 0] 29) := by unfold Hid; rw [hY2]; exact (KR2.out.other (show w.heap.size + 1 ≠ w.heap.size + 1 + 1 by omega) 10 (.slice A1 m1 k1))
 have B2' : Hid (Below w.heap.size w Y2) := by unfold Hid; rw [hY2]; exact (B2.out.setCell (show w.heap.size ≤ w.heap.size + 1 + 1 by omega) (.slice A1 m1 k1) (p := ⟨_, 10, none⟩))
 have P1' : Hid (OwnF Y2 (w.heap.size + 1 + 1 + 1) (.slice A0 m0 k0) (entR x.log)) := by unfold Hid; rw [hY2]; exact (P1.out.low (show w.heap.size + 1 + 1 < w.heap.size + 1 + 1 + 1 by omega))
 have P2' : Hid (Nums Y2 (w.heap.size + 1 + 1 + 1) (.slice A1 m1 k1) x.yes) := by unfold Hid; rw [hY2]; exact (P2.out.low (show w.heap.size + 1 + 1 < w.heap.size + 1 + 1 + 1 by omega))
 clear KO2 KI2 KR2 B2 P1 P2
 go_wp2_with fail
 rw [← hY2]
 clear hY2 c10 f10 i11
 have HZ2 : Hid (w.heap.size + 1 + 1 + 1 ≤ Y2.heap.size) := KO2'.out.lt
 refine (toIntS x.nxt un Y2 B (HN.out.on (B2'.out.mono HB.out)) L2.out (Nat.le_trans HB.out B2'.out.size)).mono ?_
 rintro e W3 ⟨u2, rfl, hO, hb⟩
 obtain ⟨A2, k2, hu, -⟩ := hO.shape
 generalize x.nxt.length = m2 at hu
 subst hu
 have B3 : Hid (Below w.heap.size w W3) := B2'.out.trans (hb.mono B2'.out.size)
 have KI3 : Hid (Blk W3 w.heap.size #[.int .i64 x.id, .int .i64 x.peers, .int .i64 x.term, .int .i64 x.vote, .int .i64 x.role, .int .i64 x.lead, .int .i64 x.base, .int .i64 x.bterm, ul, .int .i64 x.commit, uy, un, um] 25) := KI2'.out.on hb KI2'.out.lt
 have KR3 : Hid (Blk W3 (w.heap.size + 1) #[.int .i64 0, .int .i64 0, .int .i64 0, .int .i64 0, .int .i64 0, .int .i64 0, .int .i64 0, .int .i64 0, .slice none 0 0, .int .i64 0, .slice none 0 0, .slice none 0 0, .slice none 0 0] 29) := KR2'.out.on hb KR2'.out.lt
 have KO3 : Hid (Blk W3 (w.heap.size + 1 + 1) #[.int .i64 x.id, .int .i64 x.peers, .int .i64 x.term, .int .i64 x.vote, .int .i64 x.role, .int .i64 x.lead, .int .i64 x.base, .int .i64 x.bterm, .slice A0 m0 k0, .int .i64 x.commit, .slice A1 m1 k1, .slice none 0 0, .slice none 0 0] 29) := KO2'.out.on hb KO2'.out.lt
 have P1 : Hid (OwnF W3 (w.heap.size + 1 + 1 + 1) (.slice A0 m0 k0) (entR x.log)) := P1'.out.on hb
 have P2 : Hid (Nums W3 (w.heap.size + 1 + 1 + 1) (.slice A1 m1 k1) x.yes) := P2'.out.on hb
 have P3 : Hid (Nums W3 (w.heap.size + 1 + 1 + 1) (.slice A2 m2 k2) x.nxt) := hO.mono (show w.heap.size + 1 + 1 + 1 ≤ _ from HZ2.out)
 have AP12 : Hid (Apart (.slice A1 m1 k1) (.slice A2 m2 k2)) := P2'.out.apart hO (Nat.le_refl _)
 clear hO hb KI2' KR2' KO2' P1' P2' B2' HZ2
 have i12 := KI3.out.cell 12 _ rfl
 have c11 := KO3.out.cell 11 _ rfl
 have f11 := KO3.out.free 11
 obtain ⟨Y3, hY3⟩ : ∃ Y3, Y3 = (W3.setCell ⟨w.heap.size + 1 + 1, 11, none⟩ (.slice A2 m2 k2)) := ⟨_, rfl⟩
 have KO3' : Hid (Blk Y3 (w.heap.size + 1 + 1) #[.int .i64 x.id, .int .i64 x.peers, .int .i64 x.term, .int .i64 x.vote, .int .i64 x.role, .int .i64 x.lead, .int .i64 x.base, .int .i64 x.bterm, .slice A0 m0 k0, .int .i64 x.commit, .slice A1 m1 k1, .slice A2 m2 k2, .slice none 0 0] 29) := by unfold Hid; rw [hY3]; exact (KO3.out.set 11 (.slice A2 m2 k2))
 have KI3' : Hid (Blk Y3 w.heap.size #[.int .i64 x.id, .int .i64 x.peers, .int .i64 x.term, .int .i64 x.vote, .int .i64 x.role, .int .i64 x.lead, .int .i64 x.base, .int .i64 x.bterm, ul, .int .i64 x.commit, uy, un, um] 25) := by unfold Hid; rw [hY3]; exact (KI3.out.other (show w.heap.size ≠ w.heap.size + 1 + 1 by omega) 11 (.slice A2 m2 k2))
 have KR3' : Hid (Blk Y3 (w.heap.size + 1) #[.int .i64 0, .int .i64 0, .int .i64 0, .int .i64 0, .int .i64 0, .int .i64 0, .int .i64 0, .int .i64 0, .slice none 0 0, .int .i64 0, .slice none 0 0, .slice none 0 0, .slice none 0 0] 29) := by unfold Hid; rw [hY3]; exact (KR3.out.other (show w.heap.size + 1 ≠ w.heap.size + 1 + 1 by omega) 11 (.slice A2 m2 k2))
 have B3' : Hid (Below w.heap.size w Y3) := by unfold Hid; rw [hY3]; exact (B3.out.setCell (show w.heap.size ≤ w.heap.size + 1 + 1 by omega) (.slice A2 m2 k2) (p := ⟨_, 11, none⟩))
 have P1' : Hid (OwnF Y3 (w.heap.size + 1 + 1 + 1) (.slice A0 m0 k0) (entR x.log)) := by unfold Hid; rw [hY3]; exact (P1.out.low (show w.heap.size + 1 + 1 < w.heap.size + 1 + 1 + 1 by omega))
 have P2' : Hid (Nums Y3 (w.heap.size + 1 + 1 + 1) (.slice A1 m1 k1) x.yes) := by unfold Hid; rw [hY3]; exact (P2.out.low (show w.heap.size + 1 + 1 < w.heap.size + 1 + 1 + 1 by omega))
 have P3' : Hid (Nums Y3 (w.heap.size + 1 + 1 + 1) (.slice A2 m2 k2) x.nxt) := by unfold Hid; rw [hY3]; exact (P3.out.low (show w.heap.size + 1 + 1 < w.heap.size + 1 + 1 + 1 by omega))
 clear KO3 KI3 KR3 B3 P1 P2 P3
 go_wp2_with fail
 rw [← hY3]
 clear hY3 c11 f11 i12
 have HZ3 : Hid (w.heap.size + 1 + 1 + 1 ≤ Y3.heap.size) := KO3'.out.lt
 refine (toIntS x.mat um Y3 B (HM.out.on (B3'.out.mono HB.out)) L3.out (Nat.le_trans HB.out B3'.out.size)).mono ?_
 rintro e W4 ⟨u3, rfl, hO, hb⟩
 obtain ⟨A3, k3, hu, -⟩ := hO.shape
 generalize x.mat.length = m3 at hu
 subst hu
 have B4 : Hid (Below w.heap.size w W4) := B3'.out.trans (hb.mono B3'.out.size)
 have KI4 : Hid (Blk W4 w.heap.size #[.int .i64 x.id, .int .i64 x.peers, .int .i64 x.term, .int .i64 x.vote, .int .i64 x.role, .int .i64 x.lead, .int .i64 x.base, .int .i64 x.bterm, ul, .int .i64 x.commit, uy, un, um] 25) := KI3'.out.on hb KI3'.out.lt
 have KR4 : Hid (Blk W4 (w.heap.size + 1) #[.int .i64 0, .int .i64 0, .int .i64 0, .int .i64 0, .int .i64 0, .int .i64 0, .int .i64 0, .int .i64 0, .slice none 0 0, .int .i64 0, .slice none 0 0, .slice none 0 0, .slice none 0 0] 29) := KR3'.out.on hb KR3'.out.lt
 have KO4 : Hid (Blk W4 (w.heap.size + 1 + 1) #[.int .i64 x.id, .int .i64 x.peers, .int .i64 x.term, .int .i64 x.vote, .int .i64 x.role, .int .i64 x.lead, .int .i64 x.base, .int .i64 x.bterm, .slice A0 m0 k0, .int .i64 x.commit, .slice A1 m1 k1, .slice A2 m2 k2, .slice none 0 0] 29) := KO3'.out.on hb KO3'.out.lt
 have P1 : Hid (OwnF W4 (w.heap.size + 1 + 1 + 1) (.slice A0 m0 k0) (entR x.log)) := P1'.out.on hb
 have P2 : Hid (Nums W4 (w.heap.size + 1 + 1 + 1) (.slice A1 m1 k1) x.yes) := P2'.out.on hb
 have P3 : Hid (Nums W4 (w.heap.size + 1 + 1 + 1) (.slice A2 m2 k2) x.nxt) := P3'.out.on hb
 have P4 : Hid (Nums W4 (w.heap.size + 1 + 1 + 1) (.slice A3 m3 k3) x.mat) := hO.mono (show w.heap.size + 1 + 1 + 1 ≤ _ from HZ3.out)
 have AP13 : Hid (Apart (.slice A1 m1 k1) (.slice A3 m3 k3)) := P2'.out.apart hO (Nat.le_refl _)
 have AP23 : Hid (Apart (.slice A2 m2 k2) (.slice A3 m3 k3)) := P3'.out.apart hO (Nat.le_refl _)
 clear hO hb KI3' KR3' KO3' P1' P2' P3' B3' HZ3
 have c12 := KO4.out.cell 12 _ rfl
 have f12 := KO4.out.free 12
 obtain ⟨Y4, hY4⟩ : ∃ Y4, Y4 = (W4.setCell ⟨w.heap.size + 1 + 1, 12, none⟩ (.slice A3 m3 k3)) := ⟨_, rfl⟩
 have KO4' : Hid (Blk Y4 (w.heap.size + 1 + 1) #[.int .i64 x.id, .int .i64 x.peers, .int .i64 x.term, .int .i64 x.vote, .int .i64 x.role, .int .i64 x.lead, .int .i64 x.base, .int .i64 x.bterm, .slice A0 m0 k0, .int .i64 x.commit, .slice A1 m1 k1, .slice A2 m2 k2, .slice A3 m3 k3] 29) := by unfold Hid; rw [hY4]; exact (KO4.out.set 12 (.slice A3 m3 k3))
 have KI4' : Hid (Blk Y4 w.heap.size #[.int .i64 x.id, .int .i64 x.peers, .int .i64 x.term, .int .i64 x.vote, .int .i64 x.role, .int .i64 x.lead, .int .i64 x.base, .int .i64 x.bterm, ul, .int .i64 x.commit, uy, un, um] 25) := by unfold Hid; rw [hY4]; exact (KI4.out.other (show w.heap.size ≠ w.heap.size + 1 + 1 by omega) 12 (.slice A3 m3 k3))
 have KR4' : Hid (Blk Y4 (w.heap.size + 1) #[.int .i64 0, .int .i64 0, .int .i64 0, .int .i64 0, .int .i64 0, .int .i64 0, .int .i64 0, .int .i64 0, .slice none 0 0, .int .i64 0, .slice none 0 0, .slice none 0 0, .slice none 0 0] 29) := by unfold Hid; rw [hY4]; exact (KR4.out.other (show w.heap.size + 1 ≠ w.heap.size + 1 + 1 by omega) 12 (.slice A3 m3 k3))
 have B4' : Hid (Below w.heap.size w Y4) := by unfold Hid; rw [hY4]; exact (B4.out.setCell (show w.heap.size ≤ w.heap.size + 1 + 1 by omega) (.slice A3 m3 k3) (p := ⟨_, 12, none⟩))
 have P1' : Hid (OwnF Y4 (w.heap.size + 1 + 1 + 1) (.slice A0 m0 k0) (entR x.log)) := by unfold Hid; rw [hY4]; exact (P1.out.low (show w.heap.size + 1 + 1 < w.heap.size + 1 + 1 + 1 by omega))
 have P2' : Hid (Nums Y4 (w.heap.size + 1 + 1 + 1) (.slice A1 m1 k1) x.yes) := by unfold Hid; rw [hY4]; exact (P2.out.low (show w.heap.size + 1 + 1 < w.heap.size + 1 + 1 + 1 by omega))
 have P3' : Hid (Nums Y4 (w.heap.size + 1 + 1 + 1) (.slice A2 m2 k2) x.nxt) := by unfold Hid; rw [hY4]; exact (P3.out.low (show w.heap.size + 1 + 1 < w.heap.size + 1 + 1 + 1 by omega))
 have P4' : Hid (Nums Y4 (w.heap.size + 1 + 1 + 1) (.slice A3 m3 k3) x.mat) := by unfold Hid; rw [hY4]; exact (P4.out.low (show w.heap.size + 1 + 1 < w.heap.size + 1 + 1 + 1 by omega))
 clear KO4 KI4 KR4 B4 P1 P2 P3 P4
 go_upto_region 15 with fail
 rw [← hY4]
 clear hY4 c12 f12 KI4'
 have RW : Hid (CoRows Y4 (w.heap.size + 1 + 1 + 1) x (.slice A0 m0 k0) (.slice A1 m1 k1) (.slice A2 m2 k2) (.slice A3 m3 k3)) := ⟨P1'.out, P2'.out, P3'.out, P4'.out, AP12.out, AP13.out, AP23.out⟩
 clear P1' P2' P3' P4' AP12 AP13 AP23
 generalize hgo : w.heap.size + 1 + 1 = go at *
 have hgr : w.heap.size + 1 < go + 1 := by omega
 generalize hgr2 : w.heap.size + 1 = gr at *
 have HW0 : Hid (w.heap.size ≤ gr) := by unfold Hid; omega
 have HW1 : Hid (w.heap.size ≤ go + 1) := by unfold Hid; omega
 clear hgo hgr2 HLT
 have HV : Hid (vCo x (.slice A0 m0 k0) (.slice A1 m1 k1) (.slice A2 m2 k2) (.slice A3 m3 k3) = .agg #[.int .i64 x.id, .int .i64 x.peers, .int .i64 x.term, .int .i64 x.vote, .int .i64 x.role, .int .i64 x.lead, .int .i64 x.base, .int .i64 x.bterm, .slice A0 m0 k0, .int .i64 x.commit, .slice A1 m1 k1, .slice A2 m2 k2, .slice A3 m3 k3]) := rfl
 generalize x.id = x0 at *
 generalize x.peers = x1 at *
 generalize x.term = x2 at *
 generalize x.vote = x3 at *
 generalize x.role = x4 at *
 generalize x.lead = x5 at *
 generalize x.base = x6 at *
 generalize x.bterm = x7 at *
 generalize x.commit = x9 at *
 have c0 := KO4'.out.cell 0 _ rfl
 have c1 := KO4'.out.cell 1 _ rfl
 have c2 := KO4'.out.cell 2 _ rfl
 have c3 := KO4'.out.cell 3 _ rfl
 have c4 := KO4'.out.cell 4 _ rfl
 have c5 := KO4'.out.cell 5 _ rfl
 have c6 := KO4'.out.cell 6 _ rfl
 have c7 := KO4'.out.cell 7 _ rfl
 have c8 := KO4'.out.cell 8 _ rfl
 have c9 := KO4'.out.cell 9 _ rfl
 have c10 := KO4'.out.cell 10 _ rfl
 have c11 := KO4'.out.cell 11 _ rfl
 have c12 := KO4'.out.cell 12 _ rfl
 obtain ⟨⟨r0, g0⟩, ⟨r1, g1⟩, ⟨r2, g2⟩, ⟨r3, g3⟩, ⟨r4, g4⟩, ⟨r5, g5⟩, ⟨r6, g6⟩, ⟨r7, g7⟩, ⟨r8, g8⟩, ⟨r9, g9⟩, ⟨r10, g10⟩, ⟨r11, g11⟩, ⟨r12, g12⟩, z0, z1, z2, z3, z4, z5, z6, z7, z8, z9, z10, z11, z12⟩ := resC13 (x0 := .int .i64 x0) (x1 := .int .i64 x1) (x2 := .int .i64 x2) (x3 := .int .i64 x3) (x4 := .int .i64 x4) (x5 := .int .i64 x5) (x6 := .int .i64 x6) (x7 := .int .i64 x7) (x8 := .slice A0 m0 k0) (x9 := .int .i64 x9) (x10 := .slice A1 m1 k1) (x11 := .slice A2 m2 k2) (x12 := .slice A3 m3 k3) KR4'.out
 have FO := Hid.mk (rowsC13 RW.out hgr (.int .i64 x0) (.int .i64 x1) (.int .i64 x2) (.int .i64 x3) (.int .i64 x4) (.int .i64 x5) (.int .i64 x6) (.int .i64 x7) (.slice A0 m0 k0) (.int .i64 x9) (.slice A1 m1 k1) (.slice A2 m2 k2) (.slice A3 m3 k3))
 have FB := Hid.mk (belowC13 B4'.out HW0.out (.int .i64 x0) (.int .i64 x1) (.int .i64 x2) (.int .i64 x3) (.int .i64 x4) (.int .i64 x5) (.int .i64 x6) (.int .i64 x7) (.slice A0 m0 k0) (.int .i64 x9) (.slice A1 m1 k1) (.slice A2 m2 k2) (.slice A3 m3 k3))
 clear KO4' KR4' RW B4'
 go_wp2_with fail
 exact bodyPost_ret (v := .agg #[.int .i64 x0, .int .i64 x1, .int .i64 x2, .int .i64 x3, .int .i64 x4, .int .i64 x5, .int .i64 x6, .int .i64 x7, .slice A0 m0 k0, .int .i64 x9, .slice A1 m1 k1, .slice A2 m2 k2, .slice A3 m3 k3]) (by simp [results, go_sem, z0, z1, z2, z3, z4, z5, z6, z7, z8, z9, z10, z11, z12]) rfl ⟨_, rfl, ⟨_, _, _, _, HV.out.symm, FO.out.mono HW1.out⟩, FB.out⟩
set_option maxHeartbeats 8000000 in
theorem eqCore (x : Cor) (va vb : Value) (w : World) (B : Nat) (ha : CorV w B va x) (hb : CorV w B vb x) (hs : ShortC x) (hB : B ≤ w.heap.size) :
  Calls Try.prog 10 #[va, vb] w fun e w' => e = .returned (.bool true) ∧ Below w.heap.size w w' := by
 obtain ⟨al, ay, an, am, rfl, a1, a2, a3, a4⟩ := ha
 obtain ⟨bl, b_y, bn, bm, rfl, b1, b2, b3, b4⟩ := hb
 unfold vCo
 have HB : Hid (B ≤ w.heap.size) := hB
 have H1 := Hid.mk (show _ ∧ _ from ⟨a1, b1⟩)
 have H2 := Hid.mk (show _ ∧ _ from ⟨a2, b2⟩)
 have H3 := Hid.mk (show _ ∧ _ from ⟨a3, b3⟩)
 have H4 := Hid.mk (show _ ∧ _ from ⟨a4, b4⟩)
 have HS : Hid (ShortC x) := hs
 clear a1 a2 a3 a4 b1 b2 b3 b4 hB hs
 have hb0 := belowA2 w (.cells #[.int .i64 x.id, .int .i64 x.peers, .int .i64 x.term, .int .i64 x.vote, .int .i64 x.role, .int .i64 x.lead, .int .i64 x.base, .int .i64 x.bterm, al, .int .i64 x.commit, ay, an, am] 29) (.cells #[.int .i64 x.id, .int .i64 x.peers, .int .i64 x.term, .int .i64 x.vote, .int .i64 x.role, .int .i64 x.lead, .int .i64 x.base, .int .i64 x.bterm, bl, .int .i64 x.commit, b_y, bn, bm] 29)
 have bA := (Blk.new w #[.int .i64 x.id, .int .i64 x.peers, .int .i64 x.term, .int .i64 x.vote, .int .i64 x.role, .int .i64 x.lead, .int .i64 x.base, .int .i64 x.bterm, al, .int .i64 x.commit, ay, an, am] 29).alloc (.cells #[.int .i64 x.id, .int .i64 x.peers, .int .i64 x.term, .int .i64 x.vote, .int .i64 x.role, .int .i64 x.lead, .int .i64 x.base, .int .i64 x.bterm, bl, .int .i64 x.commit, b_y, bn, bm] 29)
 have bB := Blk.new (w.alloc (.cells #[.int .i64 x.id, .int .i64 x.peers, .int .i64 x.term, .int .i64 x.vote, .int .i64 x.role, .int .i64 x.lead, .int .i64 x.base, .int .i64 x.bterm, al, .int .i64 x.commit, ay, an, am] 29)) #[.int .i64 x.id, .int .i64 x.peers, .int .i64 x.term, .int .i64 x.vote, .int .i64 x.role, .int .i64 x.lead, .int .i64 x.base, .int .i64 x.bterm, bl, .int .i64 x.commit, b_y, bn, bm] 29
 simp only [World.size_alloc] at bA bB
 obtain ⟨W, hW⟩ : ∃ W, W = (w.alloc (.cells #[.int .i64 x.id, .int .i64 x.peers, .int .i64 x.term, .int .i64 x.vote, .int .i64 x.role, .int .i64 x.lead, .int .i64 x.base, .int .i64 x.bterm, al, .int .i64 x.commit, ay, an, am] 29)).alloc (.cells #[.int .i64 x.id, .int .i64 x.peers, .int .i64 x.term, .int .i64 x.vote, .int .i64 x.role, .int .i64 x.lead, .int .i64 x.base, .int .i64 x.bterm, bl, .int .i64 x.commit, b_y, bn, bm] 29) := ⟨_, rfl⟩
 rw [← hW] at hb0 bA bB
 have B0 : Hid (Below w.heap.size w W) := hb0
 have BA := Hid.mk bA
 have BB := Hid.mk bB
 clear hb0 bA bB
 go_enter Try.func10, Try.ntmps10
 go_wp2_with fail
 rw [← hW]
 clear hW
 refine (eqEntryS x.log al bl W B (H1.out.1.on (B0.out.mono HB.out)) (H1.out.2.on (B0.out.mono HB.out)) HS.out.n (Nat.le_trans HB.out B0.out.size)).mono ?_
 rintro e W1 ⟨rfl, hb1⟩
 have B1 : Hid (Below w.heap.size w W1) := B0.out.trans (hb1.mono B0.out.size)
 have BA1 := Hid.mk (BA.out.on hb1 BA.out.lt)
 have BB1 := Hid.mk (BB.out.on hb1 BB.out.lt)
 clear hb1 BA BB
 have p9 := BA1.out.cell 9 _ rfl
 have q9 := BB1.out.cell 9 _ rfl
 have p10 := BA1.out.cell 10 _ rfl
 have q10 := BB1.out.cell 10 _ rfl
 go_wp2_with fail
 refine (eqIntS x.yes ay b_y W1 B (H2.out.1.on (B1.out.mono HB.out)) (H2.out.2.on (B1.out.mono HB.out)) (Nat.le_trans HS.out.y (by omega))).mono ?_
 rintro e W2 ⟨rfl, hlk⟩
 have hb1 := hlk.below
 have B2 : Hid (Below w.heap.size w W2) := B1.out.trans (hb1.mono B1.out.size)
 have BA2 := Hid.mk (BA1.out.on hb1 BA1.out.lt)
 have BB2 := Hid.mk (BB1.out.on hb1 BB1.out.lt)
 clear hb1 hlk BA1 BB1 p10 q10 p9 q9
 have p11 := BA2.out.cell 11 _ rfl
 have q11 := BB2.out.cell 11 _ rfl
 go_wp2_with fail
 refine (eqIntS x.nxt an bn W2 B (H3.out.1.on (B2.out.mono HB.out)) (H3.out.2.on (B2.out.mono HB.out)) (Nat.le_trans HS.out.q (by omega))).mono ?_
 rintro e W3 ⟨rfl, hlk⟩
 have hb1 := hlk.below
 have B3 : Hid (Below w.heap.size w W3) := B2.out.trans (hb1.mono B2.out.size)
 have BA3 := Hid.mk (BA2.out.on hb1 BA2.out.lt)
 have BB3 := Hid.mk (BB2.out.on hb1 BB2.out.lt)
 clear hb1 hlk BA2 BB2 p11 q11
 have p12 := BA3.out.cell 12 _ rfl
 have q12 := BB3.out.cell 12 _ rfl
 go_wp2_with fail
 refine (eqIntS x.mat am bm W3 B (H4.out.1.on (B3.out.mono HB.out)) (H4.out.2.on (B3.out.mono HB.out)) (Nat.le_trans HS.out.m (by omega))).mono ?_
 rintro e W4 ⟨rfl, hlk⟩
 have hb1 := hlk.below
 have B4 : Hid (Below w.heap.size w W4) := B3.out.trans (hb1.mono B3.out.size)
 have BA4 := Hid.mk (BA3.out.on hb1 BA3.out.lt)
 have BB4 := Hid.mk (BB3.out.on hb1 BB3.out.lt)
 clear hb1 hlk BA3 BB3 p12 q12
 go_wp2_with fail
 go_ret
 exact ⟨rfl, B4.out⟩
structure CoMks (w : World) (base : Nat) (x : Cor) (ul uy un um : Value) : Prop where
 l : OwnF w base ul (newR (mkEnt 1) x.log.length)
 y : Nums w base uy (nmarks (1 + 2 * x.log.length) x.yes.length)
 n : Nums w base un (nmarks (1 + 2 * x.log.length + x.yes.length) x.nxt.length)
 m : Nums w base um (nmarks (1 + 2 * x.log.length + x.yes.length + x.nxt.length) x.mat.length)
theorem CoMks.on {w w' : World} {base : Nat} {x : Cor} {ul uy un um : Value} (h : CoMks w base x ul uy un um) (hb : Below w.heap.size w w') : CoMks w' base x ul uy un um := ⟨h.l.on hb, h.y.on hb, h.n.on hb, h.m.on hb⟩
def kCo (x : Cor) : Nat := 1 + 2 * x.log.length + x.yes.length + x.nxt.length + x.mat.length
theorem OwnF.ents {w : World} {base : Nat} {v : Value} {R : List (List Value)} (h : OwnF w base v R) {g : Nat} (hg : blkF v = some g) : ∃ cs fz, w.heap[g]? = some (.cells cs 71 fz) := by
 rcases h with ⟨_, A, c, rfl, _⟩ | ⟨h0, g', n0, c0, d, c, R0, h1, h2, h3, rfl, h5, h6⟩
 ·cases A <;> cases hg
 ·have hk := blkF_own hg
  simp only [Value.ownBlock, Option.some.injEq] at hk
  subst hk
  rcases h1.2.2 with ⟨e, _⟩ | ⟨g1, c1, cur1, e, _, k1, _⟩
  ·cases e
  ·cases e
   exact ⟨_, _, k1⟩
theorem OwnF.notNum {w : World} {base base' : Nat} {v u : Value} {R : List (List Value)} {l : List Int} (h : OwnF w base v R) (hn : Nums w base' u l) (ht : (3 : Nat) ≠ 71) {g : Nat} (hg : u.ownBlock = some g) : blkF v ≠ some g := by
 obtain ⟨cs, fz, e⟩ := hn.kind hg
 exact h.notBlk e ht
theorem Nums.notEnt {w : World} {base base' : Nat} {v u : Value} {R : List (List Value)} {l : List Int} (hn : Nums w base' u l) (h : OwnF w base v R) (ht : (3 : Nat) ≠ 71) {g : Nat} (hg : blkF v = some g) : u.ownBlock ≠ some g := by
 obtain ⟨cs, fz, e⟩ := h.ents hg
 exact hn.notBlk e (fun q => ht q.symm)
set_option maxHeartbeats 4000000 in
theorem markCore (x : Cor) (ul uy un um : Value) (base : Nat) (w : World) (hv : CoRows w base x ul uy un um) (hs : ShortC x) (hbase : base ≤ w.heap.size) :
  Calls Try.prog 12 #[vCo x ul uy un um, .int .i64 1] w fun e w' => e = .returned (.int .i64 (kCo x : Int)) ∧ CoMks w' base x ul uy un um ∧ Below base w w' ∧ (∀ g, g < w.heap.size → NotC ul uy un um g → w'.heap[g]? = w.heap[g]?) := by
 have hb0 : Below w.heap.size w (w.alloc (.cells #[.int .i64 x.id, .int .i64 x.peers, .int .i64 x.term, .int .i64 x.vote, .int .i64 x.role, .int .i64 x.lead, .int .i64 x.base, .int .i64 x.bterm, ul, .int .i64 x.commit, uy, un, um] 29)) := (Below.refl _ _).alloc (Nat.le_refl _) _
 have HR := Hid.mk (hv.on hb0)
 have B0 : Hid (Below w.heap.size w (w.alloc (.cells #[.int .i64 x.id, .int .i64 x.peers, .int .i64 x.term, .int .i64 x.vote, .int .i64 x.role, .int .i64 x.lead, .int .i64 x.base, .int .i64 x.bterm, ul, .int .i64 x.commit, uy, un, um] 29))) := hb0
 have K0 := Hid.mk (Blk.new w #[.int .i64 x.id, .int .i64 x.peers, .int .i64 x.term, .int .i64 x.vote, .int .i64 x.role, .int .i64 x.lead, .int .i64 x.base, .int .i64 x.bterm, ul, .int .i64 x.commit, uy, un, um] 29)
 have HBs : Hid (base ≤ w.heap.size) := hbase
 have HS : Hid (ShortC x) := hs
 have HKc : Hid (kCo x = 1 + 2 * x.log.length + x.yes.length + x.nxt.length + x.mat.length) := rfl
 have HN3 : Hid ((3 : Nat) ≠ 71) := by unfold Hid; decide
 have HI3 : Hid ((29 : Nat) ≠ 3) := by unfold Hid; decide
 have HIE : Hid ((29 : Nat) ≠ 71) := by unfold Hid; decide
 obtain ⟨A0, m0, k0, e0⟩ : ∃ A m k, ul = .slice A m k := by obtain ⟨A, c, e⟩ := hv.l.shape; exact ⟨A, _, c, e⟩
 obtain ⟨A1, m1, k1, e1⟩ : ∃ A m k, uy = .slice A m k := by obtain ⟨A, c, e, _⟩ := hv.y.shape; exact ⟨A, _, c, e⟩
 obtain ⟨A2, m2, k2, e2⟩ : ∃ A m k, un = .slice A m k := by obtain ⟨A, c, e, _⟩ := hv.n.shape; exact ⟨A, _, c, e⟩
 obtain ⟨A3, m3, k3, e3⟩ : ∃ A m k, um = .slice A m k := by obtain ⟨A, c, e, _⟩ := hv.m.shape; exact ⟨A, _, c, e⟩
 subst e0 e1 e2 e3
 have HRa := HR.out
 unfold vCo
 clear hb0 hv hbase hs
 go_enter Try.func12, Try.ntmps12
 go_wp2_with fail
 generalize w.alloc (.cells #[.int .i64 x.id, .int .i64 x.peers, .int .i64 x.term, .int .i64 x.vote, .int .i64 x.role, .int .i64 x.lead, .int .i64 x.base, .int .i64 x.bterm, .slice A0 m0 k0, .int .i64 x.commit, .slice A1 m1 k1, .slice A2 m2 k2, .slice A3 m3 k3] 29) = W at *
 refine (markEntryF 1 base (.slice A0 m0 k0) (entR x.log) W HR.out.l (by rw [entR_length]; exact HS.out.n) (by omega) (by omega) (Nat.le_trans HBs.out B0.out.size)).mono ?_
 rintro e W1 ⟨rfl, hO1, hb1, hk1⟩
 rw [entR_length] at hO1 ⊢
 have Q1 : Hid (OwnF W1 base (.slice A0 m0 k0) (newR (mkEnt 1) x.log.length)) := hO1
 have Y1 : Hid (Nums W1 base (.slice A1 m1 k1) x.yes) := HR.out.y.kept fun g hg e => hk1 g hg (HR.out.l.notNum HR.out.y HN3.out e)
 have N1 : Hid (Nums W1 base (.slice A2 m2 k2) x.nxt) := HR.out.n.kept fun g hg e => hk1 g hg (HR.out.l.notNum HR.out.n HN3.out e)
 have M1 : Hid (Nums W1 base (.slice A3 m3 k3) x.mat) := HR.out.m.kept fun g hg e => hk1 g hg (HR.out.l.notNum HR.out.m HN3.out e)
 have AP : Hid (Apart (.slice A1 m1 k1) (.slice A2 m2 k2) ∧ Apart (.slice A1 m1 k1) (.slice A3 m3 k3) ∧ Apart (.slice A2 m2 k2) (.slice A3 m3 k3)) := ⟨HR.out.yn, HR.out.ym, HR.out.nm⟩
 have K1 : Hid (Blk W1 w.heap.size #[.int .i64 x.id, .int .i64 x.peers, .int .i64 x.term, .int .i64 x.vote, .int .i64 x.role, .int .i64 x.lead, .int .i64 x.base, .int .i64 x.bterm, .slice A0 m0 k0, .int .i64 x.commit, .slice A1 m1 k1, .slice A2 m2 k2, .slice A3 m3 k3] 29) := (hk1 _ K0.out.lt (HR.out.l.notBlk K0.out HIE.out)).trans K0.out
 have B1 : Hid (Below base w W1) := (B0.out.mono HBs.out).trans hb1
 have G1 : Hid (∀ g, g < w.heap.size → blkF (.slice A0 m0 k0) ≠ some g → W1.heap[g]? = w.heap[g]?) := fun g hg e => (hk1 g (Nat.lt_of_lt_of_le hg B0.out.size) e).trans (B0.out.block g hg)
 have WZ : Hid (W.heap.size ≤ W1.heap.size) := hb1.size
 clear hO1 hb1 hk1 HR HRa
 generalize hq1 : 1 + 2 * x.log.length = r1 at *
 have HQ1 : Hid (1 + 2 * x.log.length = r1) := hq1
 have HLn := Hid.mk HS.out.n
 clear hq1
 have j10 := K1.out.cell 10 _ rfl
 go_wp2_with fail
 refine (markIntK r1 base (.slice A1 m1 k1) x.yes W1 Y1.out (by have := HS.out.y; omega) (by have := HQ1.out; have := HLn.out; omega)).mono ?_
 rintro e W2 ⟨rfl, hO, hb, hk⟩
 have Y2 : Hid (Nums W2 base (.slice A1 m1 k1) (nmarks r1 x.yes.length)) := hO
 have Q2 : Hid (OwnF W2 base (.slice A0 m0 k0) (newR (mkEnt 1) x.log.length)) := Q1.out.kept fun g hg e => hk g (Y1.out.notEnt Q1.out HN3.out e)
 have N2 : Hid (Nums W2 base (.slice A2 m2 k2) x.nxt) := N1.out.kept fun g hg e => hk g (fun q => AP.out.1 g q e)
 have M2 : Hid (Nums W2 base (.slice A3 m3 k3) x.mat) := M1.out.kept fun g hg e => hk g (fun q => AP.out.2.1 g q e)
 have K2 : Hid (Blk W2 w.heap.size #[.int .i64 x.id, .int .i64 x.peers, .int .i64 x.term, .int .i64 x.vote, .int .i64 x.role, .int .i64 x.lead, .int .i64 x.base, .int .i64 x.bterm, .slice A0 m0 k0, .int .i64 x.commit, .slice A1 m1 k1, .slice A2 m2 k2, .slice A3 m3 k3] 29) := (hk _ (Y1.out.notBlk K1.out HI3.out)).trans K1.out
 have B2 : Hid (Below base w W2) := B1.out.trans hb
 have G2 : Hid (∀ g, g < w.heap.size → blkF (.slice A0 m0 k0) ≠ some g → (Value.slice A1 m1 k1).ownBlock ≠ some g → W2.heap[g]? = w.heap[g]?) := fun g hg e e2 => (hk g e2).trans (G1.out g hg e)
 clear hO hb hk Q1 Y1 N1 M1 K1 B1 G1 j10
 generalize hq2 : r1 + x.yes.length = r2 at *
 have HQ2 : Hid (r1 + x.yes.length = r2) := hq2
 have HLy := Hid.mk HS.out.y
 clear hq2
 have j11 := K2.out.cell 11 _ rfl
 go_wp2_with fail
 refine (markIntK r2 base (.slice A2 m2 k2) x.nxt W2 N2.out (by have := HS.out.q; omega) (by have := HQ1.out; have := HLn.out; have := HQ2.out; have := HLy.out; omega)).mono ?_
 rintro e W3 ⟨rfl, hO, hb, hk⟩
 have N3 : Hid (Nums W3 base (.slice A2 m2 k2) (nmarks r2 x.nxt.length)) := hO
 have Q3 : Hid (OwnF W3 base (.slice A0 m0 k0) (newR (mkEnt 1) x.log.length)) := Q2.out.kept fun g hg e => hk g (N2.out.notEnt Q2.out HN3.out e)
 have Y3 : Hid (Nums W3 base (.slice A1 m1 k1) (nmarks r1 x.yes.length)) := Y2.out.kept fun g hg e => hk g (fun q => AP.out.1 g e q)
 have M3 : Hid (Nums W3 base (.slice A3 m3 k3) x.mat) := M2.out.kept fun g hg e => hk g (fun q => AP.out.2.2 g q e)
 have K3 : Hid (Blk W3 w.heap.size #[.int .i64 x.id, .int .i64 x.peers, .int .i64 x.term, .int .i64 x.vote, .int .i64 x.role, .int .i64 x.lead, .int .i64 x.base, .int .i64 x.bterm, .slice A0 m0 k0, .int .i64 x.commit, .slice A1 m1 k1, .slice A2 m2 k2, .slice A3 m3 k3] 29) := (hk _ (N2.out.notBlk K2.out HI3.out)).trans K2.out
 have B3 : Hid (Below base w W3) := B2.out.trans hb
 have G3 : Hid (∀ g, g < w.heap.size → blkF (.slice A0 m0 k0) ≠ some g → (Value.slice A1 m1 k1).ownBlock ≠ some g → (Value.slice A2 m2 k2).ownBlock ≠ some g → W3.heap[g]? = w.heap[g]?) := fun g hg e e2 e3 => (hk g e3).trans (G2.out g hg e e2)
 clear hO hb hk Q2 Y2 N2 M2 K2 B2 G2 j11
 generalize hq3 : r2 + x.nxt.length = r3 at *
 have HQ3 : Hid (r2 + x.nxt.length = r3) := hq3
 have HLx := Hid.mk HS.out.q
 clear hq3
 have j12 := K3.out.cell 12 _ rfl
 go_wp2_with fail
 refine (markIntK r3 base (.slice A3 m3 k3) x.mat W3 M3.out (by have := HS.out.m; omega) (by have := HQ1.out; have := HLn.out; have := HQ2.out; have := HLy.out; have := HQ3.out; have := HLx.out; omega)).mono ?_
 rintro e W4 ⟨rfl, hO, hb, hk⟩
 have M4 : Hid (Nums W4 base (.slice A3 m3 k3) (nmarks r3 x.mat.length)) := hO
 have Q4 : Hid (OwnF W4 base (.slice A0 m0 k0) (newR (mkEnt 1) x.log.length)) := Q3.out.kept fun g hg e => hk g (M3.out.notEnt Q3.out HN3.out e)
 have Y4 : Hid (Nums W4 base (.slice A1 m1 k1) (nmarks r1 x.yes.length)) := Y3.out.kept fun g hg e => hk g (fun q => AP.out.2.1 g e q)
 have N4 : Hid (Nums W4 base (.slice A2 m2 k2) (nmarks r2 x.nxt.length)) := N3.out.kept fun g hg e => hk g (fun q => AP.out.2.2 g e q)
 have B4 : Hid (Below base w W4) := B3.out.trans hb
 have G4 : Hid (∀ g, g < w.heap.size → NotC (.slice A0 m0 k0) (.slice A1 m1 k1) (.slice A2 m2 k2) (.slice A3 m3 k3) g → W4.heap[g]? = w.heap[g]?) := fun g hg e => (hk g e.m).trans (G3.out g hg e.l e.y e.n)
 have HF : Hid (kCo x = r3 + x.mat.length) := HKc.out
 have R4 : Hid (CoMks W4 base x (.slice A0 m0 k0) (.slice A1 m1 k1) (.slice A2 m2 k2) (.slice A3 m3 k3)) := by
  refine ⟨Q4.out, ?_, ?_, ?_⟩
  ·rw [HQ1.out]; exact Y4.out
  ·rw [HQ1.out, HQ2.out]; exact N4.out
  ·rw [HQ1.out, HQ2.out, HQ3.out]; exact M4.out
 clear hO hb hk Q3 Y3 N3 M3 K3 B3 G3 j12
 generalize r3 + x.mat.length = r4 at *
 go_wp2_with fail
 go_ret
 exact ⟨by rw [HF.out]; rfl, R4.out, B4.out, G4.out⟩
set_option maxHeartbeats 4000000 in
theorem heldCore (x : Cor) (ul uy un um : Value) (base : Nat) (w : World) (hv : CoMks w base x ul uy un um) (hs : ShortC x) :
  Calls Try.prog 14 #[vCo x ul uy un um, .int .i64 1] w fun e w' => e = .returned (.int .i64 (kCo x : Int)) ∧ Below w.heap.size w w' := by
 have hb0 : Below w.heap.size w (w.alloc (.cells #[.int .i64 x.id, .int .i64 x.peers, .int .i64 x.term, .int .i64 x.vote, .int .i64 x.role, .int .i64 x.lead, .int .i64 x.base, .int .i64 x.bterm, ul, .int .i64 x.commit, uy, un, um] 29)) := (Below.refl _ _).alloc (Nat.le_refl _) _
 have HR := Hid.mk (hv.on hb0)
 have B0 : Hid (Below w.heap.size w (w.alloc (.cells #[.int .i64 x.id, .int .i64 x.peers, .int .i64 x.term, .int .i64 x.vote, .int .i64 x.role, .int .i64 x.lead, .int .i64 x.base, .int .i64 x.bterm, ul, .int .i64 x.commit, uy, un, um] 29))) := hb0
 have K0 := Hid.mk (Blk.new w #[.int .i64 x.id, .int .i64 x.peers, .int .i64 x.term, .int .i64 x.vote, .int .i64 x.role, .int .i64 x.lead, .int .i64 x.base, .int .i64 x.bterm, ul, .int .i64 x.commit, uy, un, um] 29)
 have HS : Hid (ShortC x) := hs
 have HKc : Hid (kCo x = 1 + 2 * x.log.length + x.yes.length + x.nxt.length + x.mat.length) := rfl
 obtain ⟨A0, m0, k0, e0⟩ : ∃ A m k, ul = .slice A m k := by obtain ⟨A, c, e⟩ := hv.l.shape; exact ⟨A, _, c, e⟩
 obtain ⟨A1, m1, k1, e1⟩ : ∃ A m k, uy = .slice A m k := by obtain ⟨A, c, e, _⟩ := hv.y.shape; exact ⟨A, _, c, e⟩
 obtain ⟨A2, m2, k2, e2⟩ : ∃ A m k, un = .slice A m k := by obtain ⟨A, c, e, _⟩ := hv.n.shape; exact ⟨A, _, c, e⟩
 obtain ⟨A3, m3, k3, e3⟩ : ∃ A m k, um = .slice A m k := by obtain ⟨A, c, e, _⟩ := hv.m.shape; exact ⟨A, _, c, e⟩
 subst e0 e1 e2 e3
 unfold vCo
 clear hb0 hv hs
 go_enter Try.func14, Try.ntmps14
 go_wp2_with fail
 generalize w.alloc (.cells #[.int .i64 x.id, .int .i64 x.peers, .int .i64 x.term, .int .i64 x.vote, .int .i64 x.role, .int .i64 x.lead, .int .i64 x.base, .int .i64 x.bterm, .slice A0 m0 k0, .int .i64 x.commit, .slice A1 m1 k1, .slice A2 m2 k2, .slice A3 m3 k3] 29) = W at *
 refine (heldEntryS 1 x.log.length (.slice A0 m0 k0) W W.heap.size HR.out.l.lies HS.out.n (by omega) (by omega) (Nat.le_refl _)).mono ?_
 rintro e W1 ⟨rfl, hb1⟩
 have R1 := Hid.mk (HR.out.on hb1)
 have K1 : Hid (Blk W1 w.heap.size #[.int .i64 x.id, .int .i64 x.peers, .int .i64 x.term, .int .i64 x.vote, .int .i64 x.role, .int .i64 x.lead, .int .i64 x.base, .int .i64 x.bterm, .slice A0 m0 k0, .int .i64 x.commit, .slice A1 m1 k1, .slice A2 m2 k2, .slice A3 m3 k3] 29) := K0.out.on hb1 K0.out.lt
 have B1 : Hid (Below w.heap.size w W1) := B0.out.trans (hb1.mono B0.out.size)
 have j10 := K1.out.cell 10 _ rfl
 have j11 := K1.out.cell 11 _ rfl
 have j12 := K1.out.cell 12 _ rfl
 have HLn := Hid.mk HS.out.n
 have HLy := Hid.mk HS.out.y
 have HLx := Hid.mk HS.out.q
 have HLm := Hid.mk HS.out.m
 have hy := R1.out.y
 have hn := R1.out.n
 have hm := R1.out.m
 clear hb1 K0 HR R1
 generalize hq1 : 1 + 2 * x.log.length = r1 at *
 have HQ1 : Hid (1 + 2 * x.log.length = r1) := hq1
 clear hq1
 generalize hq2 : r1 + x.yes.length = r2 at *
 have HQ2 : Hid (r1 + x.yes.length = r2) := hq2
 clear hq2
 generalize hq3 : r2 + x.nxt.length = r3 at *
 have HQ3 : Hid (r2 + x.nxt.length = r3) := hq3
 clear hq3
 have c1 := heldIntS r1 base x.yes.length (.slice A1 m1 k1) W1 hy (by have := HLy.out; omega) (by have := HQ1.out; have := HLn.out; omega)
 have c2 := heldIntS r2 base x.nxt.length (.slice A2 m2 k2) W1 hn (by have := HLx.out; omega) (by have := HQ1.out; have := HLn.out; have := HQ2.out; have := HLy.out; omega)
 have c3 := heldIntS r3 base x.mat.length (.slice A3 m3 k3) W1 hm (by have := HLm.out; omega) (by have := HQ1.out; have := HLn.out; have := HQ2.out; have := HLy.out; have := HQ3.out; have := HLx.out; omega)
 rw [HQ2.out] at c1
 rw [HQ3.out] at c2
 have HF : Hid (kCo x = r3 + x.mat.length) := HKc.out
 clear hy hn hm
 generalize r3 + x.mat.length = r4 at *
 have e1 : decide ((r1 : Int) < 0) = false := decide_eq_false (by omega)
 have e2 : decide ((r2 : Int) < 0) = false := decide_eq_false (by omega)
 have e3 : decide ((r3 : Int) < 0) = false := decide_eq_false (by omega)
 have e4 : decide ((r4 : Int) < 0) = false := decide_eq_false (by omega)
 go_wp2_with fail
 refine c1.mono ?_
 rintro e w' ⟨rfl, rfl⟩
 go_wp2_with fail
 refine c2.mono ?_
 rintro e w' ⟨rfl, rfl⟩
 go_wp2_with fail
 refine c3.mono ?_
 rintro e w' ⟨rfl, rfl⟩
 go_wp2_with fail
 go_ret
 exact ⟨by rw [HF.out]; rfl, B1.out⟩
end Go.Proofs.Ytlhoonohpfpkbaa
