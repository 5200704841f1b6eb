/- LawChg -/
import Derived.Test.YtfmannphobjgpaaRows
import Derived.Test.YtfmannphobjgpaaQc9
import Derived.Test.YtfmannphobjgpaaQc8
import Derived.Test.YtfmannphobjgpaaQc7
import Derived.Test.YtfmannphobjgpaaQc12
import Derived.Test.YtfmannphobjgpaaQc15
import Derived.Test.YtfmannphobjgpaaQc16
import Derived.Laws.StructEq
import Derived.Laws.DeepStrings4
import Derived.WalkKit
import Derived.ProofKit
import Derived.OpenShut
import Derived.Below
import Derived.WalkSmall
import Derived.BigQuiet
import Derived.Deep.QuietTactic
import Derived.Deep.RegionWith
import Derived.Deep.CutRange
import Derived.Handy
open List (setIfInBounds_toArray set_cons_zero set_cons_succ)
namespace Go.Proofs.Ytfmannphobjgpaa
open Go.ChangeShapes Go.WideShapes Go.ChangeAt Go.RowKit Go.PlainAid
set_option linter.unusedVariables false
theorem runs_in (l : List Rcd) : ∀ x, runs x l → ∀ i, i < l.length → walOk (ends x (l.take i)) = true ∧ recOk (l.getD i default) = true ∧ recFits (ends x (l.take i)) (l.getD i default) = true ∧ ends x (l.take (i + 1)) = stepTo (ends x (l.take i)) (l.getD i default) := by
 induction l with
 | nil => intro x _ i hi; simp at hi
 | cons r l ih =>
  intro x h i hi
  match i with
  | 0 => exact ⟨h.1, h.2.1, h.2.2.1, rfl⟩
  | i + 1 => exact ih _ h.2.2.2 i (by simpa using hi)
theorem ch_self {y : Wl} {l : List Rcd} {ok : Bool} (h : ChAns y y l ok) (hy : walOk y = true) : l = [] ∧ ok = true := by
 have hp : Pre y.ents y.ents y.ents.length := ⟨Nat.le_refl _, Nat.le_refl _, fun _ _ => rfl, fun h => absurd h (Nat.lt_irrefl _)⟩
 have hc : ChAns y y (chList y y y.ents.length) true := .inl ⟨rfl, ⟨hy, hy, rfl, rfl, .inl ⟨rfl, rfl⟩⟩, _, hp, rfl⟩
 obtain ⟨rfl, rfl⟩ := h.one hc
 refine ⟨?_, rfl⟩
 unfold chList hardR cutR
 rw [if_pos ⟨rfl, rfl⟩, if_neg (Nat.lt_irrefl _), Nat.sub_self]
 rfl
theorem ok_data {y : Wl} (hy : walOk y = true) : ∀ e ∈ y.ents, e.data.size ≤ 900 := by
 intro e he
 obtain ⟨i, hi, rfl⟩ := List.mem_iff_getElem.1 he
 have := (ents_at y.term y.ents y.bterm i (wOk_of hy).e hi).2.2.1
 rw [List.getD_eq_getElem?_getD, List.getElem?_eq_getElem hi] at this
 exact this
set_option maxRecDepth 20000 in
set_option maxHeartbeats 8000000 in
theorem law_fnChanges (ao : Option Addr) (len cap : Nat) (cs : Nat → Nat) (w : World) (h : CodeIs w w.heap.size ao len cs) (hl : len ≤ 9223372036854775807) : Calls Try.prog 3 #[.slice ao len cap] w fun e w' => e = .returned (.bool true) ∧ Below w.heap.size w w' := by
 by_cases hbig : 1048576 < len
 ·have c0 := big_yes w ao len cap hbig hl
  go_enter Try.func3, Try.ntmps3
  go_wp2_with fail
  refine c0.mono ?_
  rintro e w' ⟨rfl, rfl⟩
  go_wp2_with fail
  go_ret
  exact ⟨rfl, Below.refl _ _⟩
 have c0 := big_no w ao len cap (by omega)
 have cD := drawChanges w ao len cap cs (by omega) h
 clear hbig h hl
 go_enter Try.func3, Try.ntmps3
 go_wp2_with fail
 refine c0.mono ?_
 rintro e w' ⟨rfl, rfl⟩
 go_wp2_with fail
 refine cD.mono ?_
 rintro e w1 ⟨⟨u, u', x, y, rfl, ⟨ue, rfl, hO⟩, ⟨uf, rfl, hO'⟩, ⟨hxn, hxd⟩, ⟨hyn, hyd⟩⟩, hb⟩
 obtain ⟨Ax, cx, rfl, -⟩ := ent_look hO.lies
 obtain ⟨Ay, cy, rfl, -⟩ := ent_look hO'.lies
 have FX : Hid (FitsW x) := ⟨by unfold maxLen; omega, fun e he => by have := hxd e he; unfold maxLen; omega⟩
 have FY : Hid (FitsW y) := ⟨by unfold maxLen; omega, fun e he => by have := hyd e he; unfold maxLen; omega⟩
 have hal : Below w1.heap.size w1 ((w1.alloc (.cells #[.int .i64 x.term, .int .i64 x.vote, .int .i64 x.base, .int .i64 x.bterm, .slice Ax x.ents.length cx] 26)).alloc (.cells #[.int .i64 y.term, .int .i64 y.vote, .int .i64 y.base, .int .i64 y.bterm, .slice Ay y.ents.length cy] 26)) := ((Below.refl _ _).alloc (Nat.le_refl _) _).alloc (by simp) _
 have B1 : Hid (Below w.heap.size w ((w1.alloc (.cells #[.int .i64 x.term, .int .i64 x.vote, .int .i64 x.base, .int .i64 x.bterm, .slice Ax x.ents.length cx] 26)).alloc (.cells #[.int .i64 y.term, .int .i64 y.vote, .int .i64 y.base, .int .i64 y.bterm, .slice Ay y.ents.length cy] 26))) := hb.trans (hal.mono hb.size)
 have KX1 : Hid (Blk ((w1.alloc (.cells #[.int .i64 x.term, .int .i64 x.vote, .int .i64 x.base, .int .i64 x.bterm, .slice Ax x.ents.length cx] 26)).alloc (.cells #[.int .i64 y.term, .int .i64 y.vote, .int .i64 y.base, .int .i64 y.bterm, .slice Ay y.ents.length cy] 26)) w1.heap.size #[.int .i64 x.term, .int .i64 x.vote, .int .i64 x.base, .int .i64 x.bterm, .slice Ax x.ents.length cx] 26) := (Blk.new w1 _ _).alloc _
 have KY1 : Hid (Blk ((w1.alloc (.cells #[.int .i64 x.term, .int .i64 x.vote, .int .i64 x.base, .int .i64 x.bterm, .slice Ax x.ents.length cx] 26)).alloc (.cells #[.int .i64 y.term, .int .i64 y.vote, .int .i64 y.base, .int .i64 y.bterm, .slice Ay y.ents.length cy] 26)) (w1.heap.size + 1) #[.int .i64 y.term, .int .i64 y.vote, .int .i64 y.base, .int .i64 y.bterm, .slice Ay y.ents.length cy] 26) := by
  have := Blk.new (w1.alloc (.cells #[.int .i64 x.term, .int .i64 x.vote, .int .i64 x.base, .int .i64 x.bterm, .slice Ax x.ents.length cx] 26)) #[.int .i64 y.term, .int .i64 y.vote, .int .i64 y.base, .int .i64 y.bterm, .slice Ay y.ents.length cy] 26
  simp only [World.size_alloc] at this
  exact this
 have OX1 : Hid (Owns ((w1.alloc (.cells #[.int .i64 x.term, .int .i64 x.vote, .int .i64 x.base, .int .i64 x.bterm, .slice Ax x.ents.length cx] 26)).alloc (.cells #[.int .i64 y.term, .int .i64 y.vote, .int .i64 y.base, .int .i64 y.bterm, .slice Ay y.ents.length cy] 26)) w.heap.size 58 2 (.slice Ax x.ents.length cx) (entR x.ents)) := hO.on hal
 have OY1 : Hid (Owns ((w1.alloc (.cells #[.int .i64 x.term, .int .i64 x.vote, .int .i64 x.base, .int .i64 x.bterm, .slice Ax x.ents.length cx] 26)).alloc (.cells #[.int .i64 y.term, .int .i64 y.vote, .int .i64 y.base, .int .i64 y.bterm, .slice Ay y.ents.length cy] 26)) w.heap.size 58 2 (.slice Ay y.ents.length cy) (entR y.ents)) := hO'.on hal
 clear cD c0 hal hb hO hO' hxn hxd hyn hyd
 go_upto_region 4 with fail
 generalize (w1.alloc (.cells #[.int .i64 x.term, .int .i64 x.vote, .int .i64 x.base, .int .i64 x.bterm, .slice Ax x.ents.length cx] 26)).alloc (.cells #[.int .i64 y.term, .int .i64 y.vote, .int .i64 y.base, .int .i64 y.bterm, .slice Ay y.ents.length cy] 26) = W1 at *
 have cC := implChanges x y (.agg #[.int .i64 x.term, .int .i64 x.vote, .int .i64 x.base, .int .i64 x.bterm, .slice Ax x.ents.length cx]) (.agg #[.int .i64 y.term, .int .i64 y.vote, .int .i64 y.base, .int .i64 y.bterm, .slice Ay y.ents.length cy]) W1 W1.heap.size ⟨_, rfl, OX1.out.lies⟩ ⟨_, rfl, OY1.out.lies⟩ FX.out FY.out (Nat.le_refl _)
 have kx1c0 := KX1.out.cell 0 _ rfl
 have kx1c1 := KX1.out.cell 1 _ rfl
 have kx1c2 := KX1.out.cell 2 _ rfl
 have kx1c3 := KX1.out.cell 3 _ rfl
 have kx1c4 := KX1.out.cell 4 _ rfl
 have ky1c0 := KY1.out.cell 0 _ rfl
 have ky1c1 := KY1.out.cell 1 _ rfl
 have ky1c2 := KY1.out.cell 2 _ rfl
 have ky1c3 := KY1.out.cell 3 _ rfl
 have ky1c4 := KY1.out.cell 4 _ rfl
 go_wp2_with fail
 refine cC.mono ?_
 rintro e W2 ⟨l, ok, ul, hC, rfl, hOl, hb⟩
 obtain ⟨Al, cl, rfl, -⟩ := rcd_look hOl.lies
 have B2 : Hid (Below w.heap.size w W2) := B1.out.trans (hb.mono B1.out.size)
 have KX2 : Hid (Blk W2 w1.heap.size #[.int .i64 x.term, .int .i64 x.vote, .int .i64 x.base, .int .i64 x.bterm, .slice Ax x.ents.length cx] 26) := KX1.out.on hb KX1.out.lt
 have KY2 : Hid (Blk W2 (w1.heap.size + 1) #[.int .i64 y.term, .int .i64 y.vote, .int .i64 y.base, .int .i64 y.bterm, .slice Ay y.ents.length cy] 26) := KY1.out.on hb KY1.out.lt
 have OX2 : Hid (Owns W2 w.heap.size 58 2 (.slice Ax x.ents.length cx) (entR x.ents)) := OX1.out.on hb
 have OY2 : Hid (Owns W2 w.heap.size 58 2 (.slice Ay y.ents.length cy) (entR y.ents)) := OY1.out.on hb
 have OL2 : Hid (Owns W2 w.heap.size 35 5 (.slice Al l.length cl) (rcdR l)) := hOl.mono B1.out.size
 have HC : Hid (ChAns x y l ok) := hC
 have cC2 := specChanges x y (.agg #[.int .i64 x.term, .int .i64 x.vote, .int .i64 x.base, .int .i64 x.bterm, .slice Ax x.ents.length cx]) (.agg #[.int .i64 y.term, .int .i64 y.vote, .int .i64 y.base, .int .i64 y.bterm, .slice Ay y.ents.length cy]) W2 W2.heap.size ⟨_, rfl, OX2.out.lies⟩ ⟨_, rfl, OY2.out.lies⟩ FX.out FY.out (Nat.le_refl _)
 clear hC hOl hb cC B1 KX1 KY1 OX1 OY1 kx1c0 kx1c1 kx1c2 kx1c3 kx1c4 ky1c0 ky1c1 ky1c2 ky1c3 ky1c4
 have kx2c0 := KX2.out.cell 0 _ rfl
 have kx2c1 := KX2.out.cell 1 _ rfl
 have kx2c2 := KX2.out.cell 2 _ rfl
 have kx2c3 := KX2.out.cell 3 _ rfl
 have kx2c4 := KX2.out.cell 4 _ rfl
 have ky2c0 := KY2.out.cell 0 _ rfl
 have ky2c1 := KY2.out.cell 1 _ rfl
 have ky2c2 := KY2.out.cell 2 _ rfl
 have ky2c3 := KY2.out.cell 3 _ rfl
 have ky2c4 := KY2.out.cell 4 _ rfl
 go_wp2_with fail
 refine cC2.mono ?_
 rintro e W3 ⟨l', ok', ul', hC', rfl, -, hb⟩
 obtain ⟨rfl, rfl⟩ := HC.out.one hC'
 have B3 : Hid (Below w.heap.size w W3) := B2.out.trans (hb.mono B2.out.size)
 have KX3 : Hid (Blk W3 w1.heap.size #[.int .i64 x.term, .int .i64 x.vote, .int .i64 x.base, .int .i64 x.bterm, .slice Ax x.ents.length cx] 26) := KX2.out.on hb KX2.out.lt
 have KY3 : Hid (Blk W3 (w1.heap.size + 1) #[.int .i64 y.term, .int .i64 y.vote, .int .i64 y.base, .int .i64 y.bterm, .slice Ay y.ents.length cy] 26) := KY2.out.on hb KY2.out.lt
 have OX3 : Hid (Owns W3 w.heap.size 58 2 (.slice Ax x.ents.length cx) (entR x.ents)) := OX2.out.on hb
 have OY3 : Hid (Owns W3 w.heap.size 58 2 (.slice Ay y.ents.length cy) (entR y.ents)) := OY2.out.on hb
 have OL3 : Hid (Owns W3 w.heap.size 35 5 (.slice Al l.length cl) (rcdR l)) := OL2.out.on hb
 clear hC' hb cC2 B2 KX2 KY2 OX2 OY2 OL2 kx2c0 kx2c1 kx2c2 kx2c3 kx2c4 ky2c0 ky2c1 ky2c2 ky2c3 ky2c4
 cases ok with
 | false =>
  have hl0 : l.length = 0 := by
   rcases HC.out with ⟨h, _⟩ | ⟨_, _, h⟩
   ·cases h
   ·rw [h]; rfl
  have q6 : (((0 : Nat) : Int) == 0) = true := by rfl
  clear HC OL3
  generalize l.length = n at *
  subst hl0
  go_wp2_with fail
  go_ret
  exact ⟨rfl, B3.out⟩
 | true =>
  have HR : Hid (runs x l) := (ch_leads HC.out).1
  have HE : Hid (ends x l = y) := (ch_leads HC.out).2
  have HY : Hid (walOk y = true) := by
   rcases HC.out with ⟨_, h, _⟩ | ⟨h, _⟩
   ·exact h.2.1
   ·cases h
  have hln : l.length ≤ 62 := by
   rcases HC.out with ⟨_, h, k, _, hk⟩ | ⟨h, _⟩
   ·rw [hk]; exact chList_length x y k (wOk_of h.2.1).n
   ·cases h
  have q1 : (l.length : Int) ≤ 62 := by omega
  have W4h : Below W3.heap.size W3 (W3.alloc (.cells #[.int .i64 x.term, .int .i64 x.vote, .int .i64 x.base, .int .i64 x.bterm, .slice Ax x.ents.length cx] 26)) := (Below.refl _ _).alloc (Nat.le_refl _) _
  have KB4 : Hid (Blk (W3.alloc (.cells #[.int .i64 x.term, .int .i64 x.vote, .int .i64 x.base, .int .i64 x.bterm, .slice Ax x.ents.length cx] 26)) W3.heap.size #[.int .i64 x.term, .int .i64 x.vote, .int .i64 x.base, .int .i64 x.bterm, .slice Ax x.ents.length cx] 26) := Blk.new _ _ _
  have KY4 : Hid (Blk (W3.alloc (.cells #[.int .i64 x.term, .int .i64 x.vote, .int .i64 x.base, .int .i64 x.bterm, .slice Ax x.ents.length cx] 26)) (w1.heap.size + 1) #[.int .i64 y.term, .int .i64 y.vote, .int .i64 y.base, .int .i64 y.bterm, .slice Ay y.ents.length cy] 26) := KY3.out.alloc _
  have OX4 : Hid (Owns (W3.alloc (.cells #[.int .i64 x.term, .int .i64 x.vote, .int .i64 x.base, .int .i64 x.bterm, .slice Ax x.ents.length cx] 26)) w.heap.size 58 2 (.slice Ax x.ents.length cx) (entR x.ents)) := OX3.out.on W4h
  have OY4 : Hid (Owns (W3.alloc (.cells #[.int .i64 x.term, .int .i64 x.vote, .int .i64 x.base, .int .i64 x.bterm, .slice Ax x.ents.length cx] 26)) w.heap.size 58 2 (.slice Ay y.ents.length cy) (entR y.ents)) := OY3.out.on W4h
  have OL4 : Hid (Owns (W3.alloc (.cells #[.int .i64 x.term, .int .i64 x.vote, .int .i64 x.base, .int .i64 x.bterm, .slice Ax x.ents.length cx] 26)) w.heap.size 35 5 (.slice Al l.length cl) (rcdR l)) := OL3.out.on W4h
  have B4 : Hid (Below w.heap.size w (W3.alloc (.cells #[.int .i64 x.term, .int .i64 x.vote, .int .i64 x.base, .int .i64 x.bterm, .slice Ax x.ents.length cx] 26))) := B3.out.trans (W4h.mono B3.out.size)
  have G9 : Hid (w.heap.size ≤ W3.heap.size) := B3.out.size
  have GY : Hid (w1.heap.size + 1 ≠ W3.heap.size) := by have := KY3.out.lt; unfold Hid; omega
  clear W4h HC
  have kx3c0 := KX3.out.cell 0 _ rfl
  have kx3c1 := KX3.out.cell 1 _ rfl
  have kx3c2 := KX3.out.cell 2 _ rfl
  have kx3c3 := KX3.out.cell 3 _ rfl
  have kx3c4 := KX3.out.cell 4 _ rfl
  go_wp2_with fail
  generalize W3.alloc (.cells #[.int .i64 x.term, .int .i64 x.vote, .int .i64 x.base, .int .i64 x.bterm, .slice Ax x.ents.length cx] 26) = W4 at *
  clear kx3c0 kx3c1 kx3c2 kx3c3 kx3c4 KX3 KY3 OX3 OY3 OL3 B3
  go_loopw [10] (fun v10 wr => ∃ (i : Nat) (z : Wl) (A : Option Addr) (c : Nat), i ≤ l.length ∧ v10 = .int .i64 (i : Int) ∧ z = ends x (l.take i) ∧ Blk wr W3.heap.size #[.int .i64 z.term, .int .i64 z.vote, .int .i64 z.base, .int .i64 z.bterm, .slice A z.ents.length c] 26 ∧ Owns wr w.heap.size 58 2 (.slice A z.ents.length c) (entR z.ents) ∧ Blk wr (w1.heap.size + 1) #[.int .i64 y.term, .int .i64 y.vote, .int .i64 y.base, .int .i64 y.bterm, .slice Ay y.ents.length cy] 26 ∧ Owns wr w.heap.size 58 2 (.slice Ay y.ents.length cy) (entR y.ents) ∧ Owns wr w.heap.size 35 5 (.slice Al l.length cl) (rcdR l) ∧ Below w.heap.size w wr) (fun i _ => l.length - (intOf i).toNat)
  case atStart => exact ⟨0, x, Ax, cx, Nat.zero_le _, rfl, rfl, KB4.out, OX4.out, KY4.out, OY4.out, OL4.out, B4.out⟩
  case round =>
   obtain ⟨i, z, A, c, hi, rfl, hz, hkb, hoz, hky, hoy, hol, hb⟩ := hrel
   have KBR : Hid (Blk wr W3.heap.size #[.int .i64 z.term, .int .i64 z.vote, .int .i64 z.base, .int .i64 z.bterm, .slice A z.ents.length c] 26) := hkb
   have OZR : Hid (Owns wr w.heap.size 58 2 (.slice A z.ents.length c) (entR z.ents)) := hoz
   have KYR : Hid (Blk wr (w1.heap.size + 1) #[.int .i64 y.term, .int .i64 y.vote, .int .i64 y.base, .int .i64 y.bterm, .slice Ay y.ents.length cy] 26) := hky
   have OYR : Hid (Owns wr w.heap.size 58 2 (.slice Ay y.ents.length cy) (entR y.ents)) := hoy
   have OLR : Hid (Owns wr w.heap.size 35 5 (.slice Al l.length cl) (rcdR l)) := hol
   have BR : Hid (Below w.heap.size w wr) := hb
   have HZ : Hid (z = ends x (l.take i)) := hz
   clear hkb hoz hky hoy hol hb hz KB4 OX4 KY4 OY4 OL4 B4
   by_cases hlt : i < l.length
   ·have q4 : (i : Int) < (l.length : Int) := by omega
    obtain ⟨w1h, w2h, w3h, w4h⟩ := runs_in l x HR.out i hlt
    rw [← HZ.out] at w1h w3h w4h
    obtain ⟨gl, ol, rfl, -, -⟩ : ∃ gl ol, Al = some ⟨gl, ol, none⟩ ∧ True ∧ True := by
     obtain ⟨A', c', e, hc⟩ := rcd_look OLR.out.lies
     obtain ⟨g, off, e', _⟩ := hc i hlt
     injection e with e1 e2 e3
     exact ⟨g, off, e1.trans e', trivial, trivial⟩
    have HEq : Hid (ends x (l.take (i + 1)) = stepTo z (l.getD i default)) := w4h
    have HD : Hid ((l.getD i default).data.size ≤ 900) := recOk_data _ w2h
    have HOk : Hid (walOk z = true ∧ recOk (l.getD i default) = true ∧ recFits z (l.getD i default) = true) := ⟨w1h, w2h, w3h⟩
    have HCl : Hid (∀ wx, Owns wx w.heap.size 35 5 (.slice (some ⟨gl, ol, none⟩) l.length cl) (rcdR l) → wx.cell? ⟨gl, ol + i * 5, none⟩ = some (.int .i64 (l.getD i default).kind) ∧ wx.cell? ⟨gl, ol + i * 5 + 1, none⟩ = some (.int .i64 (l.getD i default).term) ∧ wx.cell? ⟨gl, ol + i * 5 + 2, none⟩ = some (.int .i64 (l.getD i default).index) ∧ wx.cell? ⟨gl, ol + i * 5 + 3, none⟩ = some (.int .i64 (l.getD i default).vote) ∧ wx.cell? ⟨gl, ol + i * 5 + 4, none⟩ = some (.string (l.getD i default).data)) := fun wx hx => by
     obtain ⟨A', c', e, hc⟩ := rcd_look hx.lies
     obtain ⟨g, off, e', _, hcc⟩ := hc i hlt
     injection e with e1 e2 e3
     rw [← e1] at e'
     injection e' with e'
     injection e' with e1 e2 e3
     subst e1 e2
     exact hcc
    have FZ : Hid (FitsW z) := ⟨by have := (wOk_of w1h).n; unfold maxLen; omega, fun e he => by have := ok_data w1h e he; unfold maxLen; omega⟩
    generalize l.getD i default = r at *
    have cW : ∀ wx, Owns wx w.heap.size 58 2 (.slice A z.ents.length c) (entR z.ents) → Calls Try.prog 8 #[.agg #[.int .i64 z.term, .int .i64 z.vote, .int .i64 z.base, .int .i64 z.bterm, .slice A z.ents.length c], .agg #[.int .i64 r.kind, .int .i64 r.term, .int .i64 r.index, .int .i64 r.vote, .string r.data]] wx fun e w' => ∃ u, e = .returned (.tuple #[u, .bool true]) ∧ WalO w' wx.heap.size u (stepTo z r) ∧ Below wx.heap.size wx w' := fun wx hx =>
     implWalStepY z r (.agg #[.int .i64 z.term, .int .i64 z.vote, .int .i64 z.base, .int .i64 z.bterm, .slice A z.ents.length c]) wx wx.heap.size ⟨_, rfl, hx.lies⟩ FZ.out HOk.out.1 HOk.out.2.1 HOk.out.2.2 (fun e he => by have := ok_data HOk.out.1 e he; omega) (Nat.le_refl _)
    clear w1h w2h w3h w4h
    go_upto_region 14 with fail
    go_cut [11, 12] from 51 to 59 (fun s11 s12 wc => ∃ (g : Nat) (A2 : Option Addr) (c2 : Nat), s11 = .pointer (some ⟨g, 0, none⟩) ∧ s12 = .bool true ∧ Blk wc g #[.int .i64 (stepTo z r).term, .int .i64 (stepTo z r).vote, .int .i64 (stepTo z r).base, .int .i64 (stepTo z r).bterm, .slice A2 (stepTo z r).ents.length c2] 26 ∧ Owns wc w.heap.size 58 2 (.slice A2 (stepTo z r).ents.length c2) (entR (stepTo z r).ents) ∧ Blk wc W3.heap.size #[.int .i64 z.term, .int .i64 z.vote, .int .i64 z.base, .int .i64 z.bterm, .slice A z.ents.length c] 26 ∧ Owns wc w.heap.size 58 2 (.slice A z.ents.length c) (entR z.ents) ∧ Blk wc (w1.heap.size + 1) #[.int .i64 y.term, .int .i64 y.vote, .int .i64 y.base, .int .i64 y.bterm, .slice Ay y.ents.length cy] 26 ∧ Owns wc w.heap.size 58 2 (.slice Ay y.ents.length cy) (entR y.ents) ∧ Owns wc w.heap.size 35 5 (.slice (some ⟨gl, ol, none⟩) l.length cl) (rcdR l) ∧ Below w.heap.size w wc ∧ (W3.heap.size < g ∧ w1.heap.size + 1 < g))
    case first =>
     have S0 : Hid (wr.drew.cell? ⟨W3.heap.size, 0, none⟩ = some (.int .i64 z.term) ∧ wr.drew.cell? ⟨W3.heap.size, 1, none⟩ = some (.int .i64 z.vote) ∧ wr.drew.cell? ⟨W3.heap.size, 2, none⟩ = some (.int .i64 z.base) ∧ wr.drew.cell? ⟨W3.heap.size, 3, none⟩ = some (.int .i64 z.bterm) ∧ wr.drew.cell? ⟨W3.heap.size, 4, none⟩ = some (.slice A z.ents.length c) ∧ wr.drew.cell? ⟨gl, ol + i * 5, none⟩ = some (.int .i64 r.kind) ∧ wr.drew.cell? ⟨gl, ol + i * 5 + 1, none⟩ = some (.int .i64 r.term) ∧ wr.drew.cell? ⟨gl, ol + i * 5 + 2, none⟩ = some (.int .i64 r.index) ∧ wr.drew.cell? ⟨gl, ol + i * 5 + 3, none⟩ = some (.int .i64 r.vote) ∧ wr.drew.cell? ⟨gl, ol + i * 5 + 4, none⟩ = some (.string r.data)) := ⟨KBR.out.cell 0 _ rfl, KBR.out.cell 1 _ rfl, KBR.out.cell 2 _ rfl, KBR.out.cell 3 _ rfl, KBR.out.cell 4 _ rfl, HCl.out _ OLR.out⟩
     have KB0 : Hid (Blk wr.drew W3.heap.size #[.int .i64 z.term, .int .i64 z.vote, .int .i64 z.base, .int .i64 z.bterm, .slice A z.ents.length c] 26) := KBR.out
     have OZ0 : Hid (Owns wr.drew w.heap.size 58 2 (.slice A z.ents.length c) (entR z.ents)) := OZR.out.kept fun _ _ _ => rfl
     have KY0 : Hid (Blk wr.drew (w1.heap.size + 1) #[.int .i64 y.term, .int .i64 y.vote, .int .i64 y.base, .int .i64 y.bterm, .slice Ay y.ents.length cy] 26) := KYR.out
     have OY0 : Hid (Owns wr.drew w.heap.size 58 2 (.slice Ay y.ents.length cy) (entR y.ents)) := OYR.out.kept fun _ _ _ => rfl
     have OL0 : Hid (Owns wr.drew w.heap.size 35 5 (.slice (some ⟨gl, ol, none⟩) l.length cl) (rcdR l)) := OLR.out.kept fun _ _ _ => rfl
     have B0 : Hid (Below w.heap.size w wr.drew) := BR.out.drew
     refine wp_region_until (fun w' => w'.cell? ⟨W3.heap.size, 0, none⟩ = some (.int .i64 z.term) ∧ w'.cell? ⟨W3.heap.size, 1, none⟩ = some (.int .i64 z.vote) ∧ w'.cell? ⟨W3.heap.size, 2, none⟩ = some (.int .i64 z.base) ∧ w'.cell? ⟨W3.heap.size, 3, none⟩ = some (.int .i64 z.bterm) ∧ w'.cell? ⟨W3.heap.size, 4, none⟩ = some (.slice A z.ents.length c) ∧ w'.cell? ⟨gl, ol + i * 5, none⟩ = some (.int .i64 r.kind) ∧ w'.cell? ⟨gl, ol + i * 5 + 1, none⟩ = some (.int .i64 r.term) ∧ w'.cell? ⟨gl, ol + i * 5 + 2, none⟩ = some (.int .i64 r.index) ∧ w'.cell? ⟨gl, ol + i * 5 + 3, none⟩ = some (.int .i64 r.vote) ∧ w'.cell? ⟨gl, ol + i * 5 + 4, none⟩ = some (.string r.data)) (fun i => i == 10) 12 (by rfl) (by kernel_rfl) ?_
     clear KBR OZR KYR OYR OLR BR
     generalize wr.drew = V0 at *
     refine until_take 0 (v := ?_) (by rfl) (by kernel_rfl) (by exact fun _ _ _ h => h) (by rfl) ?_ S0.out ?_
     rotate_left
     ·intro w hSw
      try dsimp only at hSw
      go_simp
      try with_reducible rfl
     try simp only [Act.put, setIfInBounds_toArray, set_cons_zero, set_cons_succ]
     refine until_pure 1 (v := ?_) (by rfl) (by kernel_rfl) (by exact fun _ _ _ h => h) (by rfl) ?_ ?_
     rotate_left
     ·intro w
      go_simp
      try with_reducible rfl
     try simp only [Act.put, setIfInBounds_toArray, set_cons_zero, set_cons_succ]
     refine until_pure 2 (v := ?_) (by rfl) (by kernel_rfl) (by exact fun _ _ _ h => h) (by rfl) ?_ ?_
     rotate_left
     ·intro w
      go_simp
      try with_reducible rfl
     try simp only [Act.put, setIfInBounds_toArray, set_cons_zero, set_cons_succ]
     refine until_pure 3 (v := ?_) (by rfl) (by kernel_rfl) (by exact fun _ _ _ h => h) (by rfl) ?_ ?_
     rotate_left
     ·intro w
      go_simp
      try with_reducible rfl
     try simp only [Act.put, setIfInBounds_toArray, set_cons_zero, set_cons_succ]
     refine until_take 4 (v := ?_) (by rfl) (by kernel_rfl) (by exact fun _ _ _ h => h) (by rfl) ?_ S0.out ?_
     rotate_left
     ·intro w hSw
      try dsimp only at hSw
      go_simp
      try with_reducible rfl
     try simp only [Act.put, setIfInBounds_toArray, set_cons_zero, set_cons_succ]
     refine until_two 5 9 (by rfl) (by rfl) (by kernel_rfl) (fun K hK => ?_) (fun K hK => ?_)
     ·skip
      go_simp
      refine (cW V0 OZ0.out).mono ?_
      rintro e V1 ⟨us, rfl, ⟨ue2, rfl, hOs⟩, hb⟩
      obtain ⟨A2, c2, rfl, -⟩ := ent_look hOs.lies
      have OS1 : Hid (Owns V1 w.heap.size 58 2 (.slice A2 (stepTo z r).ents.length c2) (entR (stepTo z r).ents)) := hOs.mono B0.out.size
      have KB1 : Hid (Blk V1 W3.heap.size #[.int .i64 z.term, .int .i64 z.vote, .int .i64 z.base, .int .i64 z.bterm, .slice A z.ents.length c] 26) := KB0.out.on hb KB0.out.lt
      have OZ1 : Hid (Owns V1 w.heap.size 58 2 (.slice A z.ents.length c) (entR z.ents)) := OZ0.out.on hb
      have KY1 : Hid (Blk V1 (w1.heap.size + 1) #[.int .i64 y.term, .int .i64 y.vote, .int .i64 y.base, .int .i64 y.bterm, .slice Ay y.ents.length cy] 26) := KY0.out.on hb KY0.out.lt
      have OY1 : Hid (Owns V1 w.heap.size 58 2 (.slice Ay y.ents.length cy) (entR y.ents)) := OY0.out.on hb
      have OL1 : Hid (Owns V1 w.heap.size 35 5 (.slice (some ⟨gl, ol, none⟩) l.length cl) (rcdR l)) := OL0.out.on hb
      have B1 : Hid (Below w.heap.size w V1) := B0.out.trans (hb.mono B0.out.size)
      clear hb hOs
      go_wp2_with fail
      refine hK.out _ _ (fun _ _ => ⟨KB1.out.cell 0 _ rfl, KB1.out.cell 1 _ rfl, KB1.out.cell 2 _ rfl, KB1.out.cell 3 _ rfl, KB1.out.cell 4 _ rfl, HCl.out _ OL1.out⟩) ?_
      clear hK K
      try simp only [Act.put, setIfInBounds_toArray, set_cons_zero, set_cons_succ]
      refine until_pure 6 (v := ?_) (by rfl) (by kernel_rfl) (by exact fun _ _ _ h => h) (by rfl) ?_ ?_
      rotate_left
      ·intro w
       go_simp
       try with_reducible rfl
      try simp only [Act.put, setIfInBounds_toArray, set_cons_zero, set_cons_succ]
      refine until_pure 7 (v := ?_) (by rfl) (by kernel_rfl) (by exact fun _ _ _ h => h) (by rfl) ?_ ?_
      rotate_left
      ·intro w
       go_simp
       try with_reducible rfl
      try simp only [Act.put, setIfInBounds_toArray, set_cons_zero, set_cons_succ]
      refine until_pure 8 (v := ?_) (by rfl) (by kernel_rfl) (by exact fun _ _ _ h => h) (by rfl) ?_ ?_
      rotate_left
      ·intro w
       go_simp
       try with_reducible rfl
      try simp only [Act.put, setIfInBounds_toArray, set_cons_zero, set_cons_succ]
      refine until_one 9 (by rfl) (by kernel_rfl) (fun K hK => ?_)
      go_simp
      have KB2 : Hid (Blk (V1.alloc (.cells #[.int .i64 0, .int .i64 0, .int .i64 0, .int .i64 0, .slice none 0 0] 26)) W3.heap.size #[.int .i64 z.term, .int .i64 z.vote, .int .i64 z.base, .int .i64 z.bterm, .slice A z.ents.length c] 26) := KB1.out.alloc _
      have OZ2 : Hid (Owns (V1.alloc (.cells #[.int .i64 0, .int .i64 0, .int .i64 0, .int .i64 0, .slice none 0 0] 26)) w.heap.size 58 2 (.slice A z.ents.length c) (entR z.ents)) := OZ1.out.alloc _
      have KY2 : Hid (Blk (V1.alloc (.cells #[.int .i64 0, .int .i64 0, .int .i64 0, .int .i64 0, .slice none 0 0] 26)) (w1.heap.size + 1) #[.int .i64 y.term, .int .i64 y.vote, .int .i64 y.base, .int .i64 y.bterm, .slice Ay y.ents.length cy] 26) := KY1.out.alloc _
      have OY2 : Hid (Owns (V1.alloc (.cells #[.int .i64 0, .int .i64 0, .int .i64 0, .int .i64 0, .slice none 0 0] 26)) w.heap.size 58 2 (.slice Ay y.ents.length cy) (entR y.ents)) := OY1.out.alloc _
      have OL2 : Hid (Owns (V1.alloc (.cells #[.int .i64 0, .int .i64 0, .int .i64 0, .int .i64 0, .slice none 0 0] 26)) w.heap.size 35 5 (.slice (some ⟨gl, ol, none⟩) l.length cl) (rcdR l)) := OL1.out.alloc _
      have B2 : Hid (Below w.heap.size w (V1.alloc (.cells #[.int .i64 0, .int .i64 0, .int .i64 0, .int .i64 0, .slice none 0 0] 26))) := B1.out.alloc B1.out.size _
      have G2 : Hid (Blk (V1.alloc (.cells #[.int .i64 0, .int .i64 0, .int .i64 0, .int .i64 0, .slice none 0 0] 26)) V1.heap.size #[.int .i64 0, .int .i64 0, .int .i64 0, .int .i64 0, .slice none 0 0] 26) := Blk.new _ _ _
      have HG : Hid (W3.heap.size < V1.heap.size ∧ w1.heap.size + 1 < V1.heap.size) := ⟨KB1.out.lt, KY1.out.lt⟩
      have HGw : Hid (w.heap.size ≤ V1.heap.size) := B1.out.size
      have OS2 : Hid (Owns (V1.alloc (.cells #[.int .i64 0, .int .i64 0, .int .i64 0, .int .i64 0, .slice none 0 0] 26)) w.heap.size 58 2 (.slice A2 (stepTo z r).ents.length c2) (entR (stepTo z r).ents)) := OS1.out.alloc _
      refine hK.out _ _ (fun _ _ => ⟨KB2.out.cell 0 _ rfl, KB2.out.cell 1 _ rfl, KB2.out.cell 2 _ rfl, KB2.out.cell 3 _ rfl, KB2.out.cell 4 _ rfl, HCl.out _ OL2.out⟩) ?_
      clear hK K
      try simp only [Act.put, setIfInBounds_toArray, set_cons_zero, set_cons_succ]
      generalize hNW : V1.alloc (.cells #[.int .i64 0, .int .i64 0, .int .i64 0, .int .i64 0, .slice none 0 0] 26) = V2 at *
      generalize V1.heap.size = g at *
      clear hNW
      have r0 := G2.out
      have r1 := r0.set 0 (.int .i64 (stepTo z r).term)
      have r2 := r1.set 1 (.int .i64 (stepTo z r).vote)
      have r3 := r2.set 2 (.int .i64 (stepTo z r).base)
      have r4 := r3.set 3 (.int .i64 (stepTo z r).bterm)
      have r5 := r4.set 4 (.slice A2 (stepTo z r).ents.length c2)
      have y0 := r0.cell 0 _ rfl
      have f0 := r0.free 0
      have y1 := r1.cell 1 _ rfl
      have f1 := r1.free 1
      have y2 := r2.cell 2 _ rfl
      have f2 := r2.free 2
      have y3 := r3.cell 3 _ rfl
      have f3 := r3.free 3
      have y4 := r4.cell 4 _ rfl
      have f4 := r4.free 4
      have hg := HG.out
      have hgw := HGw.out
      have nz := OZ2.out.notBlk r0 (by decide)
      have ny := OY2.out.notBlk r0 (by decide)
      have nl := OL2.out.notBlk r0 (by decide)
      have ns := OS2.out.notBlk r0 (by decide)
      have KBF : Hid (Blk (((((V2.setCell ⟨g, 0, none⟩ (.int .i64 (stepTo z r).term)).setCell ⟨g, 1, none⟩ (.int .i64 (stepTo z r).vote)).setCell ⟨g, 2, none⟩ (.int .i64 (stepTo z r).base)).setCell ⟨g, 3, none⟩ (.int .i64 (stepTo z r).bterm)).setCell ⟨g, 4, none⟩ (.slice A2 (stepTo z r).ents.length c2)) W3.heap.size #[.int .i64 z.term, .int .i64 z.vote, .int .i64 z.base, .int .i64 z.bterm, .slice A z.ents.length c] 26) := ((((KB2.out.other (show W3.heap.size ≠ g by omega) _ _).other (show W3.heap.size ≠ g by omega) _ _).other (show W3.heap.size ≠ g by omega) _ _).other (show W3.heap.size ≠ g by omega) _ _).other (show W3.heap.size ≠ g by omega) _ _
      have OZF : Hid (Owns (((((V2.setCell ⟨g, 0, none⟩ (.int .i64 (stepTo z r).term)).setCell ⟨g, 1, none⟩ (.int .i64 (stepTo z r).vote)).setCell ⟨g, 2, none⟩ (.int .i64 (stepTo z r).base)).setCell ⟨g, 3, none⟩ (.int .i64 (stepTo z r).bterm)).setCell ⟨g, 4, none⟩ (.slice A2 (stepTo z r).ents.length c2)) w.heap.size 58 2 (.slice A z.ents.length c) (entR z.ents)) := ((((OZ2.out.other nz _ _).other nz _ _).other nz _ _).other nz _ _).other nz _ _
      have KYF : Hid (Blk (((((V2.setCell ⟨g, 0, none⟩ (.int .i64 (stepTo z r).term)).setCell ⟨g, 1, none⟩ (.int .i64 (stepTo z r).vote)).setCell ⟨g, 2, none⟩ (.int .i64 (stepTo z r).base)).setCell ⟨g, 3, none⟩ (.int .i64 (stepTo z r).bterm)).setCell ⟨g, 4, none⟩ (.slice A2 (stepTo z r).ents.length c2)) (w1.heap.size + 1) #[.int .i64 y.term, .int .i64 y.vote, .int .i64 y.base, .int .i64 y.bterm, .slice Ay y.ents.length cy] 26) := ((((KY2.out.other (show w1.heap.size + 1 ≠ g by omega) _ _).other (show w1.heap.size + 1 ≠ g by omega) _ _).other (show w1.heap.size + 1 ≠ g by omega) _ _).other (show w1.heap.size + 1 ≠ g by omega) _ _).other (show w1.heap.size + 1 ≠ g by omega) _ _
      have OYF : Hid (Owns (((((V2.setCell ⟨g, 0, none⟩ (.int .i64 (stepTo z r).term)).setCell ⟨g, 1, none⟩ (.int .i64 (stepTo z r).vote)).setCell ⟨g, 2, none⟩ (.int .i64 (stepTo z r).base)).setCell ⟨g, 3, none⟩ (.int .i64 (stepTo z r).bterm)).setCell ⟨g, 4, none⟩ (.slice A2 (stepTo z r).ents.length c2)) w.heap.size 58 2 (.slice Ay y.ents.length cy) (entR y.ents)) := ((((OY2.out.other ny _ _).other ny _ _).other ny _ _).other ny _ _).other ny _ _
      have OLF : Hid (Owns (((((V2.setCell ⟨g, 0, none⟩ (.int .i64 (stepTo z r).term)).setCell ⟨g, 1, none⟩ (.int .i64 (stepTo z r).vote)).setCell ⟨g, 2, none⟩ (.int .i64 (stepTo z r).base)).setCell ⟨g, 3, none⟩ (.int .i64 (stepTo z r).bterm)).setCell ⟨g, 4, none⟩ (.slice A2 (stepTo z r).ents.length c2)) w.heap.size 35 5 (.slice (some ⟨gl, ol, none⟩) l.length cl) (rcdR l)) := ((((OL2.out.other nl _ _).other nl _ _).other nl _ _).other nl _ _).other nl _ _
      have BF : Hid (Below w.heap.size w (((((V2.setCell ⟨g, 0, none⟩ (.int .i64 (stepTo z r).term)).setCell ⟨g, 1, none⟩ (.int .i64 (stepTo z r).vote)).setCell ⟨g, 2, none⟩ (.int .i64 (stepTo z r).base)).setCell ⟨g, 3, none⟩ (.int .i64 (stepTo z r).bterm)).setCell ⟨g, 4, none⟩ (.slice A2 (stepTo z r).ents.length c2))) := (((((B2.out.setCell (show w.heap.size ≤ g by omega) _).setCell (show w.heap.size ≤ g by omega) _).setCell (show w.heap.size ≤ g by omega) _).setCell (show w.heap.size ≤ g by omega) _).setCell (show w.heap.size ≤ g by omega) _)
      have OSF : Hid (Owns (((((V2.setCell ⟨g, 0, none⟩ (.int .i64 (stepTo z r).term)).setCell ⟨g, 1, none⟩ (.int .i64 (stepTo z r).vote)).setCell ⟨g, 2, none⟩ (.int .i64 (stepTo z r).base)).setCell ⟨g, 3, none⟩ (.int .i64 (stepTo z r).bterm)).setCell ⟨g, 4, none⟩ (.slice A2 (stepTo z r).ents.length c2)) w.heap.size 58 2 (.slice A2 (stepTo z r).ents.length c2) (entR (stepTo z r).ents)) := ((((OS2.out.other ns _ _).other ns _ _).other ns _ _).other ns _ _).other ns _ _
      have GF : Hid (Blk (((((V2.setCell ⟨g, 0, none⟩ (.int .i64 (stepTo z r).term)).setCell ⟨g, 1, none⟩ (.int .i64 (stepTo z r).vote)).setCell ⟨g, 2, none⟩ (.int .i64 (stepTo z r).base)).setCell ⟨g, 3, none⟩ (.int .i64 (stepTo z r).bterm)).setCell ⟨g, 4, none⟩ (.slice A2 (stepTo z r).ents.length c2)) g #[.int .i64 (stepTo z r).term, .int .i64 (stepTo z r).vote, .int .i64 (stepTo z r).base, .int .i64 (stepTo z r).bterm, .slice A2 (stepTo z r).ents.length c2] 26) := r5
      clear r0 r1 r2 r3 r4 r5 nz ny nl ns
      refine until_one 10 (by rfl) (by kernel_rfl) (fun K hK => ?_)
      go_simp
      refine hK.out _ _ (fun h => by cases h) ?_
      clear hK K
      try simp only [Act.put, setIfInBounds_toArray, set_cons_zero, set_cons_succ]
      refine until_pure 11 (v := ?_) (by rfl) (by kernel_rfl) (by exact fun _ _ _ h => h) (by rfl) ?_ ?_
      rotate_left
      ·intro w
       go_simp
       try with_reducible rfl
      try simp only [Act.put, setIfInBounds_toArray, set_cons_zero, set_cons_succ]
      refine until_done (by kernel_rfl) ?_ _
      go_wp2_with fail
      go_meet
      exact ⟨g, A2, c2, rfl, rfl, GF.out, OSF.out, KBF.out, OZF.out, KYF.out, OYF.out, OLF.out, BF.out, hg⟩
     ·skip
      go_simp
      have KB1 : Hid (Blk (V0.alloc (.cells #[.int .i64 0, .int .i64 0, .int .i64 0, .int .i64 0, .slice none 0 0] 26)) W3.heap.size #[.int .i64 z.term, .int .i64 z.vote, .int .i64 z.base, .int .i64 z.bterm, .slice A z.ents.length c] 26) := KB0.out.alloc _
      have OZ1 : Hid (Owns (V0.alloc (.cells #[.int .i64 0, .int .i64 0, .int .i64 0, .int .i64 0, .slice none 0 0] 26)) w.heap.size 58 2 (.slice A z.ents.length c) (entR z.ents)) := OZ0.out.alloc _
      have KY1 : Hid (Blk (V0.alloc (.cells #[.int .i64 0, .int .i64 0, .int .i64 0, .int .i64 0, .slice none 0 0] 26)) (w1.heap.size + 1) #[.int .i64 y.term, .int .i64 y.vote, .int .i64 y.base, .int .i64 y.bterm, .slice Ay y.ents.length cy] 26) := KY0.out.alloc _
      have OY1 : Hid (Owns (V0.alloc (.cells #[.int .i64 0, .int .i64 0, .int .i64 0, .int .i64 0, .slice none 0 0] 26)) w.heap.size 58 2 (.slice Ay y.ents.length cy) (entR y.ents)) := OY0.out.alloc _
      have OL1 : Hid (Owns (V0.alloc (.cells #[.int .i64 0, .int .i64 0, .int .i64 0, .int .i64 0, .slice none 0 0] 26)) w.heap.size 35 5 (.slice (some ⟨gl, ol, none⟩) l.length cl) (rcdR l)) := OL0.out.alloc _
      have B1 : Hid (Below w.heap.size w (V0.alloc (.cells #[.int .i64 0, .int .i64 0, .int .i64 0, .int .i64 0, .slice none 0 0] 26))) := B0.out.alloc B0.out.size _
      have G1 : Hid (Blk (V0.alloc (.cells #[.int .i64 0, .int .i64 0, .int .i64 0, .int .i64 0, .slice none 0 0] 26)) V0.heap.size #[.int .i64 0, .int .i64 0, .int .i64 0, .int .i64 0, .slice none 0 0] 26) := Blk.new _ _ _
      have HG : Hid (W3.heap.size < V0.heap.size ∧ w1.heap.size + 1 < V0.heap.size) := ⟨KB0.out.lt, KY0.out.lt⟩
      have HGw : Hid (w.heap.size ≤ V0.heap.size) := B0.out.size
      refine hK.out _ _ (fun _ _ => ⟨KB1.out.cell 0 _ rfl, KB1.out.cell 1 _ rfl, KB1.out.cell 2 _ rfl, KB1.out.cell 3 _ rfl, KB1.out.cell 4 _ rfl, HCl.out _ OL1.out⟩) ?_
      clear hK K
      try simp only [Act.put, setIfInBounds_toArray, set_cons_zero, set_cons_succ]
      generalize hNW : V0.alloc (.cells #[.int .i64 0, .int .i64 0, .int .i64 0, .int .i64 0, .slice none 0 0] 26) = V1 at *
      generalize V0.heap.size = g at *
      clear hNW
      refine until_one 5 (by rfl) (by kernel_rfl) (fun K hK => ?_)
      go_simp
      refine (cW V1 OZ1.out).mono ?_
      rintro e V2 ⟨us, rfl, ⟨ue2, rfl, hOs⟩, hb⟩
      obtain ⟨A2, c2, rfl, -⟩ := ent_look hOs.lies
      have OS2 : Hid (Owns V2 w.heap.size 58 2 (.slice A2 (stepTo z r).ents.length c2) (entR (stepTo z r).ents)) := hOs.mono B1.out.size
      have KB2 : Hid (Blk V2 W3.heap.size #[.int .i64 z.term, .int .i64 z.vote, .int .i64 z.base, .int .i64 z.bterm, .slice A z.ents.length c] 26) := KB1.out.on hb KB1.out.lt
      have OZ2 : Hid (Owns V2 w.heap.size 58 2 (.slice A z.ents.length c) (entR z.ents)) := OZ1.out.on hb
      have KY2 : Hid (Blk V2 (w1.heap.size + 1) #[.int .i64 y.term, .int .i64 y.vote, .int .i64 y.base, .int .i64 y.bterm, .slice Ay y.ents.length cy] 26) := KY1.out.on hb KY1.out.lt
      have OY2 : Hid (Owns V2 w.heap.size 58 2 (.slice Ay y.ents.length cy) (entR y.ents)) := OY1.out.on hb
      have OL2 : Hid (Owns V2 w.heap.size 35 5 (.slice (some ⟨gl, ol, none⟩) l.length cl) (rcdR l)) := OL1.out.on hb
      have B2 : Hid (Below w.heap.size w V2) := B1.out.trans (hb.mono B1.out.size)
      have G2 : Hid (Blk V2 g #[.int .i64 0, .int .i64 0, .int .i64 0, .int .i64 0, .slice none 0 0] 26) := G1.out.on hb G1.out.lt
      clear hb hOs
      go_wp2_with fail
      refine hK.out _ _ (fun _ _ => ⟨KB2.out.cell 0 _ rfl, KB2.out.cell 1 _ rfl, KB2.out.cell 2 _ rfl, KB2.out.cell 3 _ rfl, KB2.out.cell 4 _ rfl, HCl.out _ OL2.out⟩) ?_
      clear hK K
      try simp only [Act.put, setIfInBounds_toArray, set_cons_zero, set_cons_succ]
      refine until_pure 6 (v := ?_) (by rfl) (by kernel_rfl) (by exact fun _ _ _ h => h) (by rfl) ?_ ?_
      rotate_left
      ·intro w
       go_simp
       try with_reducible rfl
      try simp only [Act.put, setIfInBounds_toArray, set_cons_zero, set_cons_succ]
      refine until_pure 7 (v := ?_) (by rfl) (by kernel_rfl) (by exact fun _ _ _ h => h) (by rfl) ?_ ?_
      rotate_left
      ·intro w
       go_simp
       try with_reducible rfl
      try simp only [Act.put, setIfInBounds_toArray, set_cons_zero, set_cons_succ]
      refine until_pure 8 (v := ?_) (by rfl) (by kernel_rfl) (by exact fun _ _ _ h => h) (by rfl) ?_ ?_
      rotate_left
      ·intro w
       go_simp
       try with_reducible rfl
      try simp only [Act.put, setIfInBounds_toArray, set_cons_zero, set_cons_succ]
      have r0 := G2.out
      have r1 := r0.set 0 (.int .i64 (stepTo z r).term)
      have r2 := r1.set 1 (.int .i64 (stepTo z r).vote)
      have r3 := r2.set 2 (.int .i64 (stepTo z r).base)
      have r4 := r3.set 3 (.int .i64 (stepTo z r).bterm)
      have r5 := r4.set 4 (.slice A2 (stepTo z r).ents.length c2)
      have y0 := r0.cell 0 _ rfl
      have f0 := r0.free 0
      have y1 := r1.cell 1 _ rfl
      have f1 := r1.free 1
      have y2 := r2.cell 2 _ rfl
      have f2 := r2.free 2
      have y3 := r3.cell 3 _ rfl
      have f3 := r3.free 3
      have y4 := r4.cell 4 _ rfl
      have f4 := r4.free 4
      have hg := HG.out
      have hgw := HGw.out
      have nz := OZ2.out.notBlk r0 (by decide)
      have ny := OY2.out.notBlk r0 (by decide)
      have nl := OL2.out.notBlk r0 (by decide)
      have ns := OS2.out.notBlk r0 (by decide)
      have KBF : Hid (Blk (((((V2.setCell ⟨g, 0, none⟩ (.int .i64 (stepTo z r).term)).setCell ⟨g, 1, none⟩ (.int .i64 (stepTo z r).vote)).setCell ⟨g, 2, none⟩ (.int .i64 (stepTo z r).base)).setCell ⟨g, 3, none⟩ (.int .i64 (stepTo z r).bterm)).setCell ⟨g, 4, none⟩ (.slice A2 (stepTo z r).ents.length c2)) W3.heap.size #[.int .i64 z.term, .int .i64 z.vote, .int .i64 z.base, .int .i64 z.bterm, .slice A z.ents.length c] 26) := ((((KB2.out.other (show W3.heap.size ≠ g by omega) _ _).other (show W3.heap.size ≠ g by omega) _ _).other (show W3.heap.size ≠ g by omega) _ _).other (show W3.heap.size ≠ g by omega) _ _).other (show W3.heap.size ≠ g by omega) _ _
      have OZF : Hid (Owns (((((V2.setCell ⟨g, 0, none⟩ (.int .i64 (stepTo z r).term)).setCell ⟨g, 1, none⟩ (.int .i64 (stepTo z r).vote)).setCell ⟨g, 2, none⟩ (.int .i64 (stepTo z r).base)).setCell ⟨g, 3, none⟩ (.int .i64 (stepTo z r).bterm)).setCell ⟨g, 4, none⟩ (.slice A2 (stepTo z r).ents.length c2)) w.heap.size 58 2 (.slice A z.ents.length c) (entR z.ents)) := ((((OZ2.out.other nz _ _).other nz _ _).other nz _ _).other nz _ _).other nz _ _
      have KYF : Hid (Blk (((((V2.setCell ⟨g, 0, none⟩ (.int .i64 (stepTo z r).term)).setCell ⟨g, 1, none⟩ (.int .i64 (stepTo z r).vote)).setCell ⟨g, 2, none⟩ (.int .i64 (stepTo z r).base)).setCell ⟨g, 3, none⟩ (.int .i64 (stepTo z r).bterm)).setCell ⟨g, 4, none⟩ (.slice A2 (stepTo z r).ents.length c2)) (w1.heap.size + 1) #[.int .i64 y.term, .int .i64 y.vote, .int .i64 y.base, .int .i64 y.bterm, .slice Ay y.ents.length cy] 26) := ((((KY2.out.other (show w1.heap.size + 1 ≠ g by omega) _ _).other (show w1.heap.size + 1 ≠ g by omega) _ _).other (show w1.heap.size + 1 ≠ g by omega) _ _).other (show w1.heap.size + 1 ≠ g by omega) _ _).other (show w1.heap.size + 1 ≠ g by omega) _ _
      have OYF : Hid (Owns (((((V2.setCell ⟨g, 0, none⟩ (.int .i64 (stepTo z r).term)).setCell ⟨g, 1, none⟩ (.int .i64 (stepTo z r).vote)).setCell ⟨g, 2, none⟩ (.int .i64 (stepTo z r).base)).setCell ⟨g, 3, none⟩ (.int .i64 (stepTo z r).bterm)).setCell ⟨g, 4, none⟩ (.slice A2 (stepTo z r).ents.length c2)) w.heap.size 58 2 (.slice Ay y.ents.length cy) (entR y.ents)) := ((((OY2.out.other ny _ _).other ny _ _).other ny _ _).other ny _ _).other ny _ _
      have OLF : Hid (Owns (((((V2.setCell ⟨g, 0, none⟩ (.int .i64 (stepTo z r).term)).setCell ⟨g, 1, none⟩ (.int .i64 (stepTo z r).vote)).setCell ⟨g, 2, none⟩ (.int .i64 (stepTo z r).base)).setCell ⟨g, 3, none⟩ (.int .i64 (stepTo z r).bterm)).setCell ⟨g, 4, none⟩ (.slice A2 (stepTo z r).ents.length c2)) w.heap.size 35 5 (.slice (some ⟨gl, ol, none⟩) l.length cl) (rcdR l)) := ((((OL2.out.other nl _ _).other nl _ _).other nl _ _).other nl _ _).other nl _ _
      have BF : Hid (Below w.heap.size w (((((V2.setCell ⟨g, 0, none⟩ (.int .i64 (stepTo z r).term)).setCell ⟨g, 1, none⟩ (.int .i64 (stepTo z r).vote)).setCell ⟨g, 2, none⟩ (.int .i64 (stepTo z r).base)).setCell ⟨g, 3, none⟩ (.int .i64 (stepTo z r).bterm)).setCell ⟨g, 4, none⟩ (.slice A2 (stepTo z r).ents.length c2))) := (((((B2.out.setCell (show w.heap.size ≤ g by omega) _).setCell (show w.heap.size ≤ g by omega) _).setCell (show w.heap.size ≤ g by omega) _).setCell (show w.heap.size ≤ g by omega) _).setCell (show w.heap.size ≤ g by omega) _)
      have OSF : Hid (Owns (((((V2.setCell ⟨g, 0, none⟩ (.int .i64 (stepTo z r).term)).setCell ⟨g, 1, none⟩ (.int .i64 (stepTo z r).vote)).setCell ⟨g, 2, none⟩ (.int .i64 (stepTo z r).base)).setCell ⟨g, 3, none⟩ (.int .i64 (stepTo z r).bterm)).setCell ⟨g, 4, none⟩ (.slice A2 (stepTo z r).ents.length c2)) w.heap.size 58 2 (.slice A2 (stepTo z r).ents.length c2) (entR (stepTo z r).ents)) := ((((OS2.out.other ns _ _).other ns _ _).other ns _ _).other ns _ _).other ns _ _
      have GF : Hid (Blk (((((V2.setCell ⟨g, 0, none⟩ (.int .i64 (stepTo z r).term)).setCell ⟨g, 1, none⟩ (.int .i64 (stepTo z r).vote)).setCell ⟨g, 2, none⟩ (.int .i64 (stepTo z r).base)).setCell ⟨g, 3, none⟩ (.int .i64 (stepTo z r).bterm)).setCell ⟨g, 4, none⟩ (.slice A2 (stepTo z r).ents.length c2)) g #[.int .i64 (stepTo z r).term, .int .i64 (stepTo z r).vote, .int .i64 (stepTo z r).base, .int .i64 (stepTo z r).bterm, .slice A2 (stepTo z r).ents.length c2] 26) := r5
      clear r0 r1 r2 r3 r4 r5 nz ny nl ns
      refine until_one 10 (by rfl) (by kernel_rfl) (fun K hK => ?_)
      go_simp
      refine hK.out _ _ (fun h => by cases h) ?_
      clear hK K
      try simp only [Act.put, setIfInBounds_toArray, set_cons_zero, set_cons_succ]
      refine until_pure 11 (v := ?_) (by rfl) (by kernel_rfl) (by exact fun _ _ _ h => h) (by rfl) ?_ ?_
      rotate_left
      ·intro w
       go_simp
       try with_reducible rfl
      try simp only [Act.put, setIfInBounds_toArray, set_cons_zero, set_cons_succ]
      refine until_done (by kernel_rfl) ?_ _
      go_wp2_with fail
      go_meet
      exact ⟨g, A2, c2, rfl, rfl, GF.out, OSF.out, KBF.out, OZF.out, KYF.out, OYF.out, OLF.out, BF.out, hg⟩
    case rest =>
     obtain ⟨g, A2, c2, rfl, rfl, hg, hos, hkb, hoz, hky, hoy, hol, hb, hgg⟩ := hcut
     have KGC : Hid (Blk wc g #[.int .i64 (stepTo z r).term, .int .i64 (stepTo z r).vote, .int .i64 (stepTo z r).base, .int .i64 (stepTo z r).bterm, .slice A2 (stepTo z r).ents.length c2] 26) := hg
     have OSC : Hid (Owns wc w.heap.size 58 2 (.slice A2 (stepTo z r).ents.length c2) (entR (stepTo z r).ents)) := hos
     have HGG : Hid (W3.heap.size < g ∧ w1.heap.size + 1 < g) := hgg
     have KBC : Hid (Blk wc W3.heap.size #[.int .i64 z.term, .int .i64 z.vote, .int .i64 z.base, .int .i64 z.bterm, .slice A z.ents.length c] 26) := hkb
     have KYC : Hid (Blk wc (w1.heap.size + 1) #[.int .i64 y.term, .int .i64 y.vote, .int .i64 y.base, .int .i64 y.bterm, .slice Ay y.ents.length cy] 26) := hky
     have OYC : Hid (Owns wc w.heap.size 58 2 (.slice Ay y.ents.length cy) (entR y.ents)) := hoy
     have OLC : Hid (Owns wc w.heap.size 35 5 (.slice (some ⟨gl, ol, none⟩) l.length cl) (rcdR l)) := hol
     have BC : Hid (Below w.heap.size w wc) := hb
     obtain ⟨e0, e1, e2, e3, e4⟩ := HCl.out _ hol
     have cSh := implShowRec r wc (by have := HD.out; omega)
     unfold vRcd at cSh
     clear hg hos hkb hoz hky hoy hol hb hgg cW KBR OZR KYR OYR OLR BR FZ
     go_wp2_with fail
     refine cSh.mono ?_
     rintro e V1 ⟨rfl, hb⟩
     have KB1 : Hid (Blk V1 W3.heap.size #[.int .i64 z.term, .int .i64 z.vote, .int .i64 z.base, .int .i64 z.bterm, .slice A z.ents.length c] 26) := KBC.out.on hb KBC.out.lt
     have KY1 : Hid (Blk V1 (w1.heap.size + 1) #[.int .i64 y.term, .int .i64 y.vote, .int .i64 y.base, .int .i64 y.bterm, .slice Ay y.ents.length cy] 26) := KYC.out.on hb KYC.out.lt
     have OY1 : Hid (Owns V1 w.heap.size 58 2 (.slice Ay y.ents.length cy) (entR y.ents)) := OYC.out.on hb
     have OL1 : Hid (Owns V1 w.heap.size 35 5 (.slice (some ⟨gl, ol, none⟩) l.length cl) (rcdR l)) := OLC.out.on hb
     have B1 : Hid (Below w.heap.size w V1) := BC.out.trans (hb.mono BC.out.size)
     have KG1 : Hid (Blk V1 g #[.int .i64 (stepTo z r).term, .int .i64 (stepTo z r).vote, .int .i64 (stepTo z r).base, .int .i64 (stepTo z r).bterm, .slice A2 (stepTo z r).ents.length c2] 26) := KGC.out.on hb KGC.out.lt
     have OS1 : Hid (Owns V1 w.heap.size 58 2 (.slice A2 (stepTo z r).ents.length c2) (entR (stepTo z r).ents)) := OSC.out.on hb
     have cRd := implReadShow r HOk.out.2.1 V1 (by have := showR_size r HD.out; omega)
     unfold vRcd at cRd
     clear hb e0 e1 e2 e3 e4 cSh KGC OSC KBC KYC OYC OLC BC
     go_wp2_with fail
     refine cRd.mono ?_
     rintro e V2 ⟨rfl, hb⟩
     obtain ⟨V3, hV3⟩ : ∃ V3, V3 = V2.alloc (.cells #[.int .i64 r.kind, .int .i64 r.term, .int .i64 r.index, .int .i64 r.vote, .string r.data] 35) := ⟨_, rfl⟩
     have hbx : Below V1.heap.size V1 V3 := by rw [hV3]; exact hb.alloc hb.size _
     have KB3 : Hid (Blk V3 W3.heap.size #[.int .i64 z.term, .int .i64 z.vote, .int .i64 z.base, .int .i64 z.bterm, .slice A z.ents.length c] 26) := KB1.out.on hbx KB1.out.lt
     have KY3 : Hid (Blk V3 (w1.heap.size + 1) #[.int .i64 y.term, .int .i64 y.vote, .int .i64 y.base, .int .i64 y.bterm, .slice Ay y.ents.length cy] 26) := KY1.out.on hbx KY1.out.lt
     have OY3 : Hid (Owns V3 w.heap.size 58 2 (.slice Ay y.ents.length cy) (entR y.ents)) := OY1.out.on hbx
     have OL3 : Hid (Owns V3 w.heap.size 35 5 (.slice (some ⟨gl, ol, none⟩) l.length cl) (rcdR l)) := OL1.out.on hbx
     have B3 : Hid (Below w.heap.size w V3) := B1.out.trans (hbx.mono B1.out.size)
     have KG3 : Hid (Blk V3 g #[.int .i64 (stepTo z r).term, .int .i64 (stepTo z r).vote, .int .i64 (stepTo z r).base, .int .i64 (stepTo z r).bterm, .slice A2 (stepTo z r).ents.length c2] 26) := KG1.out.on hbx KG1.out.lt
     have OS3 : Hid (Owns V3 w.heap.size 58 2 (.slice A2 (stepTo z r).ents.length c2) (entR (stepTo z r).ents)) := OS1.out.on hbx
     have KR3 : Hid (Blk V3 V2.heap.size #[.int .i64 r.kind, .int .i64 r.term, .int .i64 r.index, .int .i64 r.vote, .string r.data] 35) := by unfold Hid; rw [hV3]; exact Blk.new _ _ _
     have S0 : Hid (V3.drew.cell? ⟨V2.heap.size, 0, none⟩ = some (.int .i64 r.kind) ∧ V3.drew.cell? ⟨V2.heap.size, 1, none⟩ = some (.int .i64 r.term) ∧ V3.drew.cell? ⟨V2.heap.size, 2, none⟩ = some (.int .i64 r.index) ∧ V3.drew.cell? ⟨V2.heap.size, 3, none⟩ = some (.int .i64 r.vote) ∧ V3.drew.cell? ⟨V2.heap.size, 4, none⟩ = some (.string r.data) ∧ V3.drew.cell? ⟨gl, ol + i * 5, none⟩ = some (.int .i64 r.kind) ∧ V3.drew.cell? ⟨gl, ol + i * 5 + 1, none⟩ = some (.int .i64 r.term) ∧ V3.drew.cell? ⟨gl, ol + i * 5 + 2, none⟩ = some (.int .i64 r.index) ∧ V3.drew.cell? ⟨gl, ol + i * 5 + 3, none⟩ = some (.int .i64 r.vote) ∧ V3.drew.cell? ⟨gl, ol + i * 5 + 4, none⟩ = some (.string r.data)) := ⟨KR3.out.cell 0 _ rfl, KR3.out.cell 1 _ rfl, KR3.out.cell 2 _ rfl, KR3.out.cell 3 _ rfl, KR3.out.cell 4 _ rfl, HCl.out _ OL3.out⟩
     have HV3 : Hid (V3 = _) := hV3
     clear hb hbx cRd KG1 OS1 KB1 KY1 OY1 OL1 B1 KR3 hV3
     have hx : (r.data.toList == r.data.toList) = true := by simp
     go_wp2_with fail
     rw [← HV3.out]
     refine wp_region_until (fun w' => w'.cell? ⟨V2.heap.size, 0, none⟩ = some (.int .i64 r.kind) ∧ w'.cell? ⟨V2.heap.size, 1, none⟩ = some (.int .i64 r.term) ∧ w'.cell? ⟨V2.heap.size, 2, none⟩ = some (.int .i64 r.index) ∧ w'.cell? ⟨V2.heap.size, 3, none⟩ = some (.int .i64 r.vote) ∧ w'.cell? ⟨V2.heap.size, 4, none⟩ = some (.string r.data) ∧ w'.cell? ⟨gl, ol + i * 5, none⟩ = some (.int .i64 r.kind) ∧ w'.cell? ⟨gl, ol + i * 5 + 1, none⟩ = some (.int .i64 r.term) ∧ w'.cell? ⟨gl, ol + i * 5 + 2, none⟩ = some (.int .i64 r.index) ∧ w'.cell? ⟨gl, ol + i * 5 + 3, none⟩ = some (.int .i64 r.vote) ∧ w'.cell? ⟨gl, ol + i * 5 + 4, none⟩ = some (.string r.data)) (fun _ => false) 14 (by rfl) (by kernel_rfl) ?_
     refine until_pure 0 (v := ?_) (by rfl) (by kernel_rfl) (by exact fun _ _ _ h => h) (by rfl) ?_ ?_
     rotate_left
     ·intro w
      go_simp
      try with_reducible rfl
     try simp only [Act.put, setIfInBounds_toArray, set_cons_zero, set_cons_succ]
     refine until_pure 1 (v := ?_) (by rfl) (by kernel_rfl) (by exact fun _ _ _ h => h) (by rfl) ?_ ?_
     rotate_left
     ·intro w
      go_simp
      try with_reducible rfl
     try simp only [Act.put, setIfInBounds_toArray, set_cons_zero, set_cons_succ]
     refine until_pure 2 (v := ?_) (by rfl) (by kernel_rfl) (by exact fun _ _ _ h => h) (by rfl) ?_ ?_
     rotate_left
     ·intro w
      go_simp
      try with_reducible rfl
     try simp only [Act.put, setIfInBounds_toArray, set_cons_zero, set_cons_succ]
     refine until_pure 3 (v := ?_) (by rfl) (by kernel_rfl) (by exact fun _ _ _ h => h) (by rfl) ?_ ?_
     rotate_left
     ·intro w
      go_simp
      try with_reducible rfl
     try simp only [Act.put, setIfInBounds_toArray, set_cons_zero, set_cons_succ]
     refine until_pure 4 (v := ?_) (by rfl) (by kernel_rfl) (by exact fun _ _ _ h => h) (by rfl) ?_ ?_
     rotate_left
     ·intro w
      go_simp
      try with_reducible rfl
     try simp only [Act.put, setIfInBounds_toArray, set_cons_zero, set_cons_succ]
     refine until_pure 5 (v := ?_) (by rfl) (by kernel_rfl) (by exact fun _ _ _ h => h) (by rfl) ?_ ?_
     rotate_left
     ·intro w
      go_simp
      try with_reducible rfl
     try simp only [Act.put, setIfInBounds_toArray, set_cons_zero, set_cons_succ]
     refine until_pure 6 (v := ?_) (by rfl) (by kernel_rfl) (by exact fun _ _ _ h => h) (by rfl) ?_ ?_
     rotate_left
     ·intro w
      go_simp
      try with_reducible rfl
     try simp only [Act.put, setIfInBounds_toArray, set_cons_zero, set_cons_succ]
     refine until_take 7 (v := ?_) (by rfl) (by kernel_rfl) (by exact fun _ _ _ h => h) (by rfl) ?_ S0.out ?_
     rotate_left
     ·intro w hSw
      try dsimp only at hSw
      go_simp
      try with_reducible rfl
     try simp only [Act.put, setIfInBounds_toArray, set_cons_zero, set_cons_succ]
     refine until_pure 8 (v := ?_) (by rfl) (by kernel_rfl) (by exact fun _ _ _ h => h) (by rfl) ?_ ?_
     rotate_left
     ·intro w
      go_simp
      try with_reducible rfl
     try simp only [Act.put, setIfInBounds_toArray, set_cons_zero, set_cons_succ]
     refine until_pure 9 (v := ?_) (by rfl) (by kernel_rfl) (by exact fun _ _ _ h => h) (by rfl) ?_ ?_
     rotate_left
     ·intro w
      go_simp
      try with_reducible rfl
     try simp only [Act.put, setIfInBounds_toArray, set_cons_zero, set_cons_succ]
     refine until_pure 10 (v := ?_) (by rfl) (by kernel_rfl) (by exact fun _ _ _ h => h) (by rfl) ?_ ?_
     rotate_left
     ·intro w
      go_simp
      try with_reducible rfl
     try simp only [Act.put, setIfInBounds_toArray, set_cons_zero, set_cons_succ]
     refine until_take 11 (v := ?_) (by rfl) (by kernel_rfl) (by exact fun _ _ _ h => h) (by rfl) ?_ S0.out ?_
     rotate_left
     ·intro w hSw
      try dsimp only at hSw
      go_simp
      try with_reducible rfl
     try simp only [Act.put, setIfInBounds_toArray, set_cons_zero, set_cons_succ]
     refine until_pure 12 (v := ?_) (by rfl) (by kernel_rfl) (by exact fun _ _ _ h => h) (by rfl) ?_ ?_
     rotate_left
     ·intro w
      go_simp
      try with_reducible rfl
     try simp only [Act.put, setIfInBounds_toArray, set_cons_zero, set_cons_succ]
     refine until_pure 13 (v := ?_) (by rfl) (by kernel_rfl) (by exact fun _ _ _ h => h) (by rfl) ?_ ?_
     rotate_left
     ·intro w
      go_simp
      try with_reducible rfl
     try simp only [Act.put, setIfInBounds_toArray, set_cons_zero, set_cons_succ]
     refine until_done (by kernel_rfl) ?_ _
     have KBX : Hid (Blk V3.drew W3.heap.size #[.int .i64 z.term, .int .i64 z.vote, .int .i64 z.base, .int .i64 z.bterm, .slice A z.ents.length c] 26) := KB3.out
     have KYX : Hid (Blk V3.drew (w1.heap.size + 1) #[.int .i64 y.term, .int .i64 y.vote, .int .i64 y.base, .int .i64 y.bterm, .slice Ay y.ents.length cy] 26) := KY3.out
     have OYX : Hid (Owns V3.drew w.heap.size 58 2 (.slice Ay y.ents.length cy) (entR y.ents)) := OY3.out.kept fun _ _ _ => rfl
     have OLX : Hid (Owns V3.drew w.heap.size 35 5 (.slice (some ⟨gl, ol, none⟩) l.length cl) (rcdR l)) := OL3.out.kept fun _ _ _ => rfl
     have BX : Hid (Below w.heap.size w V3.drew) := B3.out.drew
     have KGX : Hid (Blk V3.drew g #[.int .i64 (stepTo z r).term, .int .i64 (stepTo z r).vote, .int .i64 (stepTo z r).base, .int .i64 (stepTo z r).bterm, .slice A2 (stepTo z r).ents.length c2] 26) := KG3.out
     have OSX : Hid (Owns V3.drew w.heap.size 58 2 (.slice A2 (stepTo z r).ents.length c2) (entR (stepTo z r).ents)) := OS3.out.kept fun _ _ _ => rfl
     clear KB3 KY3 OY3 OL3 B3 KG3 OS3 S0
     generalize V3.drew = X at *
     have k0 := KGX.out.cell 0 _ rfl
     have k1 := KGX.out.cell 1 _ rfl
     have k2 := KGX.out.cell 2 _ rfl
     have k3 := KGX.out.cell 3 _ rfl
     have k4 := KGX.out.cell 4 _ rfl
     have r0 := KBX.out
     have r1 := r0.set 0 (.int .i64 (stepTo z r).term)
     have r2 := r1.set 1 (.int .i64 (stepTo z r).vote)
     have r3 := r2.set 2 (.int .i64 (stepTo z r).base)
     have r4 := r3.set 3 (.int .i64 (stepTo z r).bterm)
     have r5 := r4.set 4 (.slice A2 (stepTo z r).ents.length c2)
     have y0 := r0.cell 0 _ rfl
     have f0 := r0.free 0
     have y1 := r1.cell 1 _ rfl
     have f1 := r1.free 1
     have y2 := r2.cell 2 _ rfl
     have f2 := r2.free 2
     have y3 := r3.cell 3 _ rfl
     have f3 := r3.free 3
     have y4 := r4.cell 4 _ rfl
     have f4 := r4.free 4
     have ny := OYX.out.notBlk r0 (by decide)
     have nl := OLX.out.notBlk r0 (by decide)
     have ns := OSX.out.notBlk r0 (by decide)
     have KBF : Hid (Blk (((((X.setCell ⟨W3.heap.size, 0, none⟩ (.int .i64 (stepTo z r).term)).setCell ⟨W3.heap.size, 1, none⟩ (.int .i64 (stepTo z r).vote)).setCell ⟨W3.heap.size, 2, none⟩ (.int .i64 (stepTo z r).base)).setCell ⟨W3.heap.size, 3, none⟩ (.int .i64 (stepTo z r).bterm)).setCell ⟨W3.heap.size, 4, none⟩ (.slice A2 (stepTo z r).ents.length c2)) W3.heap.size #[.int .i64 (stepTo z r).term, .int .i64 (stepTo z r).vote, .int .i64 (stepTo z r).base, .int .i64 (stepTo z r).bterm, .slice A2 (stepTo z r).ents.length c2] 26) := r5
     have KYF : Hid (Blk (((((X.setCell ⟨W3.heap.size, 0, none⟩ (.int .i64 (stepTo z r).term)).setCell ⟨W3.heap.size, 1, none⟩ (.int .i64 (stepTo z r).vote)).setCell ⟨W3.heap.size, 2, none⟩ (.int .i64 (stepTo z r).base)).setCell ⟨W3.heap.size, 3, none⟩ (.int .i64 (stepTo z r).bterm)).setCell ⟨W3.heap.size, 4, none⟩ (.slice A2 (stepTo z r).ents.length c2)) (w1.heap.size + 1) #[.int .i64 y.term, .int .i64 y.vote, .int .i64 y.base, .int .i64 y.bterm, .slice Ay y.ents.length cy] 26) := ((((KYX.out.other GY.out _ _).other GY.out _ _).other GY.out _ _).other GY.out _ _).other GY.out _ _
     have OYF : Hid (Owns (((((X.setCell ⟨W3.heap.size, 0, none⟩ (.int .i64 (stepTo z r).term)).setCell ⟨W3.heap.size, 1, none⟩ (.int .i64 (stepTo z r).vote)).setCell ⟨W3.heap.size, 2, none⟩ (.int .i64 (stepTo z r).base)).setCell ⟨W3.heap.size, 3, none⟩ (.int .i64 (stepTo z r).bterm)).setCell ⟨W3.heap.size, 4, none⟩ (.slice A2 (stepTo z r).ents.length c2)) w.heap.size 58 2 (.slice Ay y.ents.length cy) (entR y.ents)) := ((((OYX.out.other ny _ _).other ny _ _).other ny _ _).other ny _ _).other ny _ _
     have OLF : Hid (Owns (((((X.setCell ⟨W3.heap.size, 0, none⟩ (.int .i64 (stepTo z r).term)).setCell ⟨W3.heap.size, 1, none⟩ (.int .i64 (stepTo z r).vote)).setCell ⟨W3.heap.size, 2, none⟩ (.int .i64 (stepTo z r).base)).setCell ⟨W3.heap.size, 3, none⟩ (.int .i64 (stepTo z r).bterm)).setCell ⟨W3.heap.size, 4, none⟩ (.slice A2 (stepTo z r).ents.length c2)) w.heap.size 35 5 (.slice (some ⟨gl, ol, none⟩) l.length cl) (rcdR l)) := ((((OLX.out.other nl _ _).other nl _ _).other nl _ _).other nl _ _).other nl _ _
     have OSF : Hid (Owns (((((X.setCell ⟨W3.heap.size, 0, none⟩ (.int .i64 (stepTo z r).term)).setCell ⟨W3.heap.size, 1, none⟩ (.int .i64 (stepTo z r).vote)).setCell ⟨W3.heap.size, 2, none⟩ (.int .i64 (stepTo z r).base)).setCell ⟨W3.heap.size, 3, none⟩ (.int .i64 (stepTo z r).bterm)).setCell ⟨W3.heap.size, 4, none⟩ (.slice A2 (stepTo z r).ents.length c2)) w.heap.size 58 2 (.slice A2 (stepTo z r).ents.length c2) (entR (stepTo z r).ents)) := ((((OSX.out.other ns _ _).other ns _ _).other ns _ _).other ns _ _).other ns _ _
     have BF : Hid (Below w.heap.size w (((((X.setCell ⟨W3.heap.size, 0, none⟩ (.int .i64 (stepTo z r).term)).setCell ⟨W3.heap.size, 1, none⟩ (.int .i64 (stepTo z r).vote)).setCell ⟨W3.heap.size, 2, none⟩ (.int .i64 (stepTo z r).base)).setCell ⟨W3.heap.size, 3, none⟩ (.int .i64 (stepTo z r).bterm)).setCell ⟨W3.heap.size, 4, none⟩ (.slice A2 (stepTo z r).ents.length c2))) := (((((BX.out.setCell G9.out _).setCell G9.out _).setCell G9.out _).setCell G9.out _).setCell G9.out _)
     clear r0 r1 r2 r3 r4 r5 ny nl ns
     go_wp2_with fail
     go_roundw
     case rel => exact ⟨i + 1, stepTo z r, A2, c2, by omega, by go_num, HEq.out.symm, KBF.out, OSF.out, KYF.out, OYF.out, OLF.out, BF.out⟩
     case measure => simp [intOf]; omega
   ·obtain rfl : i = l.length := by omega
    have ez : y = z := by
     have := HZ.out
     rw [List.take_length, HE.out] at this
     exact this.symm
    subst ez
    have cC := implChanges y y (.agg #[.int .i64 y.term, .int .i64 y.vote, .int .i64 y.base, .int .i64 y.bterm, .slice Ay y.ents.length cy]) (.agg #[.int .i64 y.term, .int .i64 y.vote, .int .i64 y.base, .int .i64 y.bterm, .slice Ay y.ents.length cy]) wr wr.heap.size ⟨_, rfl, OYR.out.lies⟩ ⟨_, rfl, OYR.out.lies⟩ FY.out FY.out (Nat.le_refl _)
    have kyRc0 := KYR.out.cell 0 _ rfl
    have kyRc1 := KYR.out.cell 1 _ rfl
    have kyRc2 := KYR.out.cell 2 _ rfl
    have kyRc3 := KYR.out.cell 3 _ rfl
    have kyRc4 := KYR.out.cell 4 _ rfl
    go_wp2_with fail
    refine cC.mono ?_
    rintro e V1 ⟨l2, ok2, ul2, hC2, rfl, hO2, hb⟩
    obtain ⟨rfl, rfl⟩ := ch_self hC2 HY.out
    obtain ⟨A2, c2, rfl, -⟩ := rcd_look hO2.lies
    have KB1 : Hid (Blk V1 W3.heap.size #[.int .i64 y.term, .int .i64 y.vote, .int .i64 y.base, .int .i64 y.bterm, .slice A y.ents.length c] 26) := KBR.out.on hb KBR.out.lt
    have KY1 : Hid (Blk V1 (w1.heap.size + 1) #[.int .i64 y.term, .int .i64 y.vote, .int .i64 y.base, .int .i64 y.bterm, .slice Ay y.ents.length cy] 26) := KYR.out.on hb KYR.out.lt
    have B1 : Hid (Below w.heap.size w V1) := BR.out.trans (hb.mono BR.out.size)
    have cS := sameW y (.agg #[.int .i64 y.term, .int .i64 y.vote, .int .i64 y.base, .int .i64 y.bterm, .slice A y.ents.length c]) (.agg #[.int .i64 y.term, .int .i64 y.vote, .int .i64 y.base, .int .i64 y.bterm, .slice Ay y.ents.length cy]) V1 V1.heap.size ⟨_, rfl, (OZR.out.on hb).lies⟩ ⟨_, rfl, (OYR.out.on hb).lies⟩ (Nat.le_refl _) (by have := (wOk_of HY.out).n; omega)
    have q6 : (((([] : List Rcd).length : Nat) : Int) == 0) = true := by rfl
    clear hb hO2 hC2 cC KBR OZR KYR OYR OLR BR kyRc0 kyRc1 kyRc2 kyRc3 kyRc4
    have kb1c0 := KB1.out.cell 0 _ rfl
    have kb1c1 := KB1.out.cell 1 _ rfl
    have kb1c2 := KB1.out.cell 2 _ rfl
    have kb1c3 := KB1.out.cell 3 _ rfl
    have kb1c4 := KB1.out.cell 4 _ rfl
    have ky1c0 := KY1.out.cell 0 _ rfl
    have ky1c1 := KY1.out.cell 1 _ rfl
    have ky1c2 := KY1.out.cell 2 _ rfl
    have ky1c3 := KY1.out.cell 3 _ rfl
    have ky1c4 := KY1.out.cell 4 _ rfl
    go_wp2_with fail
    refine cS.mono ?_
    rintro e V2 ⟨rfl, hb⟩
    have B2 : Hid (Below w.heap.size w V2) := B1.out.trans (hb.mono B1.out.size)
    clear hb cS kb1c0 kb1c1 kb1c2 kb1c3 kb1c4 ky1c0 ky1c1 ky1c2 ky1c3 ky1c4 KB1 KY1
    go_wp2_with fail
    go_ret
    exact ⟨rfl, B2.out⟩
end Go.Proofs.Ytfmannphobjgpaa
