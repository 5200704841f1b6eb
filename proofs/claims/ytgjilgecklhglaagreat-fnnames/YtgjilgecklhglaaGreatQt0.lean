/- Aid CurAid CodeArg NmAid DkAid DkRow DkPut DkSz DkBlk KdRes DkMap ImMap DkRead DkName -/
import Derived.WalkKit
import Derived.ProofKit
import Derived.Laws.IdiomStrings
import Derived.Laws.BytesString
import Derived.PlainAid
import Derived.Lib.BufferRead
import Derived.Laws.OwnMore
import Derived.Below
import Derived.OwnWalk
import Derived.Lib.QuoteBits
import Derived.Lib.Bytealg
import Derived.OneCell
import Derived.WalkSmall
import Derived.Test.YtgjilgecklhglaaGreatRows
import Derived.ChangeSlices
import Derived.ChangeArms
import Derived.OpenShut
import Derived.Lib.OwnKind
import Derived.Shelf.Strings.BuilderK
import Derived.WalkLawsBesides
import Derived.Outline
import Derived.BigQuiet
import Derived.Deep.QuietTactic
import Derived.Maps.OwnSet
import Derived.Maps.Ext
import Derived.Maps.RangeWalk
import Derived.StringKeys
namespace Go.Proofs.YtgjilgecklhglaaGreat
open Go.RowKit Go.PlainAid
def byt (n : Nat) : UInt8 := UInt8.ofNat n
theorem byt_toNat (n : Nat) : (byt n).toNat = n % 256 := by simp [byt]
def txt (l : List UInt8) : ByteArray := ⟨l.toArray⟩
theorem txt_size (l : List UInt8) : (txt l).size = l.length := by simp [txt, ByteArray.size]
def byteCells (l : List UInt8) : Array Value := (l.map fun b => Value.int .u8 (b.toNat : Int)).toArray
def bn (s : ByteArray) (k : Nat) : Nat := (bt s k).toNat
theorem bt_bn (s : ByteArray) (k : Nat) : bt s k = (bn s k : Int) := by have := bt_nonneg s k; unfold bn; omega
theorem bn_lt (s : ByteArray) (k : Nat) : bn s k < 256 := by have := bt_le s k; have := bt_nonneg s k; unfold bn; omega
theorem get_bn (s : ByteArray) : ∀ (n : Nat) (h : n < s.size), ((s[n]'h).toNat : Int) = (bn s n : Int) := fun n h => by rw [← bt_bn]; exact get_bt s n h
def Buf (w : World) (base : Nat) (v : Value) (l : List UInt8) : Prop := w.ownsRow base 5 1 v l.length (byteCells l).toList
theorem byteCells_append (a b : List UInt8) : (byteCells (a ++ b)).toList = (byteCells a).toList ++ (byteCells b).toList := by simp [byteCells]
theorem Buf.alloc {w : World} {base : Nat} {v : Value} {l : List UInt8} (h : Buf w base v l) (o : Obj) : Buf (w.alloc o) base v l := World.ownsRow.alloc h o
theorem Buf.made (w : World) (base cap : Nat) (cur : Array Value) (hb : base ≤ w.heap.size) (hm : cap ≤ maxLen) (hs : cur.size = cap) :
  Buf (w.alloc (.cells cur 5)) base (.slice (some ⟨w.heap.size, 0, none⟩) 0 cap) [] := by
 unfold Buf
 have := World.ownsRow_made (base := base) (e := 5) (size := 1) w cur cap hb hm (by omega)
 simpa [byteCells] using this
theorem wpList_append_bytes {P : Program} {w : World} {ops : Array Oper} {rest : List Oper} {o : Oper} {a : Act} {Q : Exit → Act → World → Prop} (hgd : o.guard = none) (s x : Operand) (t : TypeId)
  (ho : o.op = .call { callee := .builtin .append, args := #[s, x], argTypes := #[t, t] })
  (ht : P.underlying t = some (.slice 5)) (hinfo : (P.info? 5).map (fun i => (i.zero, i.size, i.bytes)) = some (some (.int .u8 0), 1, 1))
  (base : Nat) (v : Value) (l : List UInt8) (hs : a.eval s = v) (hown : Buf w base v l) (cs : Array Value) (bs : List UInt8) (hcs : cs = byteCells bs) (m c : Nat) (hm : m = bs.length)
  (hx : a.eval x = .slice (some ⟨w.heap.size, 0, none⟩) m c) (hlen : l.length + bs.length ≤ 140737488355328) (hbase : base ≤ w.heap.size)
  (h : ∀ v' w', Buf w' base v' (l ++ bs) → Below base w w' → wpList P ops Q rest (a.put o.dst v') w') : wpList P ops Q (o :: rest) a (w.alloc (.cells cs 5)) := by
 obtain ⟨i0, hi, hz0, hz1, hz2⟩ := info_parts hinfo
 subst hm
 subst hcs
 refine wpList_append_own (w := w.alloc (.cells (byteCells bs) 5)) hgd s x t ho base 5 i0 (.int .u8 0) 1 1 ht hi hz0 hz1 hz2 rfl (by decide) v l.length (byteCells l).toList hs (hown.alloc _) ⟨w.heap.size, 0, none⟩ bs.length c (byteCells bs).toList hx (by simp [byteCells]) ?_ ?_ ?_ ?_ ?_ ?_
 ·intro j u hj
  have e : (⟨w.heap.size, 0, none⟩ : Addr).add j = ⟨w.heap.size, j, none⟩ := by cases j <;> simp [Addr.add]
  rw [e, World.cell?_alloc_mark]
  simpa using hj
 ·intro u hu
  simp [byteCells] at hu
  obtain ⟨b, _, rfl⟩ := hu
  rfl
 ·unfold maxLen; omega
 ·omega
 ·simp; omega
 ·intro v' w' h1 h2 _
  have hb0 : ∀ k, v.ownBlock = some k → base ≤ k := fun k hk => (World.ownsRow.lt hown k hk).1
  refine h v' w' ?_ ?_
  ·unfold Buf
   rw [List.length_append, byteCells_append]
   exact h1
  ·exact ((Below.refl base w).alloc hbase _).grown h2 (by simp; omega) (by
    intro k hk
    exact hb0 k hk)
theorem Buf.string {P : Program} {w : World} {base : Nat} {v : Value} {l : List UInt8} (h : Buf w base v l) (src dst : TypeId) (hs : P.underlying src = some (.slice 5)) (he : P.underlying 5 = some (.int .u8)) (hd : P.underlying dst = some .string) :
  (convert src dst v).run P w = .ok (.string (txt l)) w := by
 obtain ⟨hl, ⟨rfl, h0⟩ | ⟨g, cap, cur, rfl, hb, hh, hn, hm, hz, ht⟩⟩ := h
 ·have : l = [] := List.eq_nil_of_length_eq_zero h0
  subst this
  exact Lib.run_convert_nil_bytes w src dst 5 0 hs he hd
 ·refine run_convert_bytes_back (P := P) w src dst 5 ⟨g, 0, none⟩ cap l hs he hd ?_
  intro j hj
  have hown : w.ownsRow base 5 1 (.slice (some ⟨g, 0, none⟩) l.length cap) l.length (byteCells l).toList := ⟨hl, .inr ⟨g, cap, cur, rfl, hb, hh, hn, hm, hz, ht⟩⟩
  have e : (⟨g, 0, none⟩ : Addr).add j = ⟨g, j, none⟩ := by cases j <;> simp [Addr.add]
  rw [e, World.ownsRow.cellAt hown j (by omega)]
  simp [byteCells, hj]
theorem one_cell (x : Int) (n : Nat) (h : x = (n : Int)) (hn : n < 256) : #[Value.int .u8 x] = byteCells [byt n] := by
 subst h
 simp [byteCells, byt_toNat]
 omega
def vvS (s : ByteArray) : Nat → Nat → Nat
 | _, 0 => 0
 | i, d + 1 => bn s i % 128 + 128 * vvS s (i + 1) d
theorem vvS_snoc (s : ByteArray) (d : Nat) : ∀ i, vvS s i (d + 1) = vvS s i d + bn s (i + d) % 128 * 128 ^ d := by
 induction d with
 | zero => intro i; simp [vvS]
 | succ d ih =>
  intro i
  rw [vvS, ih (i + 1), vvS]
  rw [show i + 1 + d = i + (d + 1) by omega, Nat.pow_succ]
  have e : 128 * (bn s (i + (d + 1)) % 128 * 128 ^ d) = bn s (i + (d + 1)) % 128 * (128 ^ d * 128) := by rw [Nat.mul_comm 128, Nat.mul_assoc]
  rw [Nat.mul_add, e]
  omega
def canonS (s : ByteArray) : Nat → Nat → Prop
 | _, 0 => False
 | i, 1 => bn s i < 128
 | i, d + 2 => 128 ≤ bn s i ∧ 0 < vvS s (i + 1) (d + 1) ∧ canonS s (i + 1) (d + 1)
theorem vvS_pos (s : ByteArray) (d : Nat) (i : Nat) (h : bn s (i + d) % 128 ≠ 0) : 0 < vvS s i (d + 1) := by
 rw [vvS_snoc]
 have : 0 < bn s (i + d) % 128 * 128 ^ d := Nat.mul_pos (by omega) (Nat.pow_pos (by omega))
 omega
theorem canonS_char (s : ByteArray) (d : Nat) : ∀ i, canonS s i (d + 1) ↔ (∀ j, j < d → 128 ≤ bn s (i + j)) ∧ bn s (i + d) < 128 ∧ (d = 0 ∨ bn s (i + d) ≠ 0) := by
 induction d with
 | zero => intro i; simp [canonS]
 | succ d ih =>
  intro i
  have ec : canonS s i (d + 2) = (128 ≤ bn s i ∧ 0 < vvS s (i + 1) (d + 1) ∧ canonS s (i + 1) (d + 1)) := rfl
  show canonS s i (d + 2) ↔ _
  rw [ec, ih (i + 1)]
  rw [show i + 1 + d = i + (d + 1) by omega]
  constructor
  ·rintro ⟨h1, h2, h3, h4, h5⟩
   refine ⟨?_, h4, .inr ?_⟩
   ·intro j hj
    cases j with
    | zero => exact h1
    | succ j => have := h3 j (by omega); rwa [show i + 1 + j = i + (j + 1) by omega] at this
   ·rcases h5 with rfl | h5
    ·simp [vvS] at h2
     intro h
     simp at h
     rw [h] at h2
     simp at h2
    ·exact h5
  ·rintro ⟨h1, h2, h3⟩
   have h4 : bn s (i + (d + 1)) ≠ 0 := by
    rcases h3 with h3 | h3
    ·omega
    ·exact h3
   refine ⟨h1 0 (by omega), ?_, ?_, h2, .inr h4⟩
   ·exact vvS_pos s d (i + 1) (by rw [show i + 1 + d = i + (d + 1) by omega]; omega)
   ·intro j hj
    have := h1 (j + 1) (by omega)
    rwa [show i + (j + 1) = i + 1 + j by omega] at this
def FindV (s : ByteArray) (k : Nat) : Prop := 1 ≤ k ∧ k ≤ 7 ∧ k ≤ s.size ∧ canonS s 0 k
theorem FindV.one {s : ByteArray} {k k' : Nat} (h : FindV s k) (h' : FindV s k') : k = k' := by
 obtain ⟨a1, a2, a3, a4⟩ := h
 obtain ⟨b1, b2, b3, b4⟩ := h'
 obtain ⟨d, rfl⟩ : ∃ d, k = d + 1 := ⟨k - 1, by omega⟩
 obtain ⟨d', rfl⟩ : ∃ d', k' = d' + 1 := ⟨k' - 1, by omega⟩
 obtain ⟨c1, c2, _⟩ := (canonS_char s d 0).1 a4
 obtain ⟨e1, e2, _⟩ := (canonS_char s d' 0).1 b4
 rcases Nat.lt_trichotomy d d' with h | h | h
 ·have := e1 d h; omega
 ·omega
 ·have := c1 d' h; omega
end Go.Proofs.YtgjilgecklhglaaGreat
namespace Go.Proofs.YtgjilgecklhglaaGreat
open Go.RowKit Go.PlainAid
structure Mod (B p : Nat) (w w' : World) : Prop where
 os : w'.os = w.os
 tape : w'.tape = w.tape
 output : w'.output = w.output
 size : w.heap.size ≤ w'.heap.size
 block : ∀ b, b < B → b ≠ p → w'.heap[b]? = w.heap[b]?
theorem Mod.refl (B p : Nat) (w : World) : Mod B p w w := ⟨rfl, rfl, rfl, Nat.le_refl _, fun _ _ _ => rfl⟩
theorem Mod.trans {B p : Nat} {a b c : World} (h : Mod B p a b) (k : Mod B p b c) : Mod B p a c :=
 ⟨k.os.trans h.os, k.tape.trans h.tape, k.output.trans h.output, Nat.le_trans h.size k.size, fun i hi hp => (k.block i hi hp).trans (h.block i hi hp)⟩
theorem Mod.mono {B C p : Nat} {a b : World} (h : Mod C p a b) (hB : B ≤ C) : Mod B p a b := ⟨h.os, h.tape, h.output, h.size, fun i hi hp => h.block i (Nat.lt_of_lt_of_le hi hB) hp⟩
theorem Mod.of_below {B p : Nat} {a b : World} (h : Below B a b) : Mod B p a b := ⟨h.os, h.tape, h.output, h.size, fun i hi _ => h.block i hi⟩
theorem Mod.below {B p : Nat} {a b : World} (h : Mod B p a b) (hB : B ≤ p) : Below B a b := ⟨h.os, h.tape, h.output, h.size, fun i hi => h.block i hi (by omega)⟩
theorem Mod.setCell {B p i : Nat} {a b : World} (h : Mod B p a b) (v : Value) : Mod B p a (b.setCell ⟨p, i, none⟩ v) := by
 refine h.trans ⟨rfl, rfl, rfl, ?_, fun j _ hj => ?_⟩
 ·simp
 ·exact Below.heap_setCell _ _ _ _ hj
theorem Mod.drewN {B p : Nat} {a b : World} (h : Mod B p a b) (k : Nat) : Mod B p a (b.drewN k) := by
 have hd := (⟨rfl, rfl, rfl, Nat.le_refl _, fun _ _ => rfl⟩ : Below B b (b.drewN k))
 exact h.trans (Mod.of_below hd)
theorem Mod.drew {B p : Nat} {a b : World} (h : Mod B p a b) : Mod B p a b.drew := h.trans (Mod.of_below (Below.refl B b).drew)
theorem Mod.alloc {B p : Nat} {a b : World} (h : Mod B p a b) (hB : B ≤ b.heap.size) (o : Obj) : Mod B p a (b.alloc o) := h.trans (Mod.of_below ((Below.refl B b).alloc hB o))
def CodeIs (w : World) (p : Nat) (ao : Option Addr) (len : Nat) (cs : Nat → Nat) : Prop :=
 len = 0 ∨ ∃ cb co, ao = some ⟨cb, co, none⟩ ∧ cb < p ∧ ∀ j, j < len → cs j < 256 ∧ w.cell? ⟨cb, co + j, none⟩ = some (.int .u8 (cs j : Int))
theorem CodeIs.kept {w w' : World} {B p : Nat} {ao : Option Addr} {len : Nat} {cs : Nat → Nat} (h : CodeIs w p ao len cs) (hm : Mod B p w w') (hp : p ≤ B) : CodeIs w' p ao len cs := by
 rcases h with h | ⟨cb, co, rfl, hcb, hj⟩
 ·exact .inl h
 ·refine .inr ⟨cb, co, rfl, hcb, fun j hj' => ⟨(hj j hj').1, ?_⟩⟩
  rw [← (hj j hj').2]
  exact World.cell?_of_block (w := w) (hm.block cb (by omega) (by omega))
theorem CodeIs.at {w : World} {p : Nat} {ao : Option Addr} {len : Nat} {cs : Nat → Nat} (h : CodeIs w p ao len cs) {i : Nat} (hi : i < len) :
  ∃ cb co, ao = some ⟨cb, co, none⟩ ∧ cb < p ∧ cs i < 256 ∧ w.cell? ⟨cb, co + i, none⟩ = some (.int .u8 (cs i : Int)) := by
 rcases h with h | ⟨cb, co, rfl, hcb, hj⟩
 ·omega
 ·exact ⟨cb, co, rfl, hcb, (hj i hi).1, (hj i hi).2⟩
def Cur (T : TypeId) (w : World) (p : Nat) (ao : Option Addr) (len cap i : Nat) (h : Int) : Prop := w.heap[p]? = some (.cells #[.slice ao len cap, .int .i64 (i : Int), .int .i64 h] T (0, 0))
theorem Cur.lt {T : TypeId} {w : World} {p : Nat} {ao : Option Addr} {len cap i : Nat} {h : Int} (c : Cur T w p ao len cap i h) : p < w.heap.size := lt_of_block c
theorem Cur.c0 {T : TypeId} {w : World} {p : Nat} {ao : Option Addr} {len cap i : Nat} {h : Int} (c : Cur T w p ao len cap i h) : w.cell? ⟨p, 0, none⟩ = some (.slice ao len cap) := by unfold Cur at c; simp [World.cell?, c]
theorem Cur.c1 {T : TypeId} {w : World} {p : Nat} {ao : Option Addr} {len cap i : Nat} {h : Int} (c : Cur T w p ao len cap i h) : w.cell? ⟨p, 1, none⟩ = some (.int .i64 (i : Int)) := by unfold Cur at c; simp [World.cell?, c]
theorem Cur.c2 {T : TypeId} {w : World} {p : Nat} {ao : Option Addr} {len cap i : Nat} {h : Int} (c : Cur T w p ao len cap i h) : w.cell? ⟨p, 2, none⟩ = some (.int .i64 h) := by unfold Cur at c; simp [World.cell?, c]
theorem Cur.free {T : TypeId} {w : World} {p : Nat} {ao : Option Addr} {len cap i : Nat} {h : Int} (c : Cur T w p ao len cap i h) (j : Nat) : w.frozen? ⟨p, j, none⟩ = false := by unfold Cur at c; simp [World.frozen?, c]
theorem Cur.set2 {T : TypeId} {w : World} {p : Nat} {ao : Option Addr} {len cap i : Nat} {h : Int} (c : Cur T w p ao len cap i h) (h' : Int) : Cur T (w.setCell ⟨p, 2, none⟩ (.int .i64 h')) p ao len cap i h' := by
 have hlt := c.lt
 unfold Cur at c ⊢
 have e : w.heap[p] = .cells #[.slice ao len cap, .int .i64 (i : Int), .int .i64 h] T (0, 0) := by simpa [Array.getElem?_eq_getElem hlt] using c
 show (w.heap.modify p _)[p]? = _
 rw [Array.getElem?_eq_getElem (by simpa using hlt), Array.getElem_modify_self, e]
 rfl
theorem Cur.set1 {T : TypeId} {w : World} {p : Nat} {ao : Option Addr} {len cap i : Nat} {h : Int} (c : Cur T w p ao len cap i h) (k : Nat) : Cur T (w.setCell ⟨p, 1, none⟩ (.int .i64 (k : Int))) p ao len cap k h := by
 have hlt := c.lt
 unfold Cur at c ⊢
 have e : w.heap[p] = .cells #[.slice ao len cap, .int .i64 (i : Int), .int .i64 h] T (0, 0) := by simpa [Array.getElem?_eq_getElem hlt] using c
 show (w.heap.modify p _)[p]? = _
 rw [Array.getElem?_eq_getElem (by simpa using hlt), Array.getElem_modify_self, e]
 rfl
theorem Cur.below {T : TypeId} {w w' : World} {B p : Nat} {ao : Option Addr} {len cap i : Nat} {h : Int} (c : Cur T w p ao len cap i h) (hb : Below B w w') (hp : p < B) : Cur T w' p ao len cap i h := by
 unfold Cur at c ⊢
 rw [hb.block p hp, c]
theorem Cur.drewN {T : TypeId} {w : World} {p : Nat} {ao : Option Addr} {len cap i : Nat} {h : Int} (c : Cur T w p ao len cap i h) (k : Nat) : Cur T (w.drewN k) p ao len cap i h :=
 c.below (⟨rfl, rfl, rfl, Nat.le_refl _, fun _ _ => rfl⟩ : Below (p + 1) w (w.drewN k)) (by omega)
def curH (h : Int) : Int := wrap64 (wrap64 (h * 6364136223846793005) + 1442695040888963407)
def curX (h : Int) : Int := bits .and .i64 (bits .xor .i64 (h / 8589934592) (h / 35184372088832)) 255
theorem and255 (x : Int) : 0 ≤ bits .and .i64 x 255 ∧ bits .and .i64 x 255 ≤ 255 := by
 have e : bits .and .i64 x 255 = IntKind.i64.wrap ((BitVec.ofInt 64 x &&& BitVec.ofInt 64 ((255 : Nat) : Int)).toNat : Int) := rfl
 rw [e, BitVec.toNat_and, ofInt_u64 255 (by omega), nat_mask8]
 have h : (BitVec.ofInt 64 x).toNat % 256 < 256 := Nat.mod_lt _ (by omega)
 rw [Lib.wrap_i64_small _ (by omega)]
 omega
theorem curX_bd (h : Int) : 0 ≤ curX h ∧ curX h ≤ 255 := and255 _
structure Pos where
 i : Nat
 h : Int
def byteV (len : Nat) (cs : Nat → Nat) (s : Pos) : Int := if s.i < len then bits .and .i64 (curX (curH s.h) + (cs s.i : Int)) 255 else curX (curH s.h)
def byteP (len : Nat) (s : Pos) : Pos := if s.i < len then ⟨s.i + 1, curH s.h⟩ else ⟨s.i, curH s.h⟩
theorem byteV_bd (len : Nat) (cs : Nat → Nat) (s : Pos) : 0 ≤ byteV len cs s ∧ byteV len cs s ≤ 255 := by
 unfold byteV
 split
 ·exact and255 _
 ·exact curX_bd _
end Go.Proofs.YtgjilgecklhglaaGreat
namespace Go.Proofs.YtgjilgecklhglaaGreat
open Go.ChangeShapes Go.WideShapes Go.ChangeAt Go.RowKit Go.PlainAid
set_option linter.unusedVariables false
theorem code_of {W : World} {a : Option Addr} {len cap : Nat} {zs : List Int} {x : Addr} (ha : a = some x) (hl : len ≤ cap) (hz : zs.length = cap) (hcell : ∀ i, i < zs.length → W.cell? (x.add i) = some (.int .u8 (zs.getD i 0))) (hwz : ∀ n ∈ zs, (Lit.int .u8 n).wf = true) :
  ∃ cs, CodeIs W W.heap.size a len cs := by
 refine ⟨fun j => (zs.getD j 0).toNat, ?_⟩
 by_cases h0 : len = 0
 ·exact .inl h0
 ·right
  obtain ⟨b, off, spot⟩ := x
  have hc := hcell 0 (by omega)
  have hspot : spot = none := by simpa [Addr.add] using World.cell?_spot hc
  subst hspot
  have hadd : ∀ j, (⟨b, off, none⟩ : Addr).add j = ⟨b, off + j, none⟩ := by intro j; cases j <;> simp [Addr.add]
  refine ⟨b, off, ha, ?_, ?_⟩
  ·rw [hadd] at hc
   rcases Nat.lt_or_ge b W.heap.size with h | h
   ·exact h
   ·simp [World.cell?, Array.getElem?_eq_none h] at hc
  ·intro j hj
   have hj' : j < zs.length := by omega
   have hm : zs.getD j 0 ∈ zs := by
    rw [List.getD_eq_getElem?_getD, List.getElem?_eq_getElem hj']
    exact List.getElem_mem hj'
   have hb := bounds_u8 (hwz _ hm)
   have hcj := hcell j hj'
   rw [hadd] at hcj
   refine ⟨by show (zs.getD j 0).toNat < 256; omega, ?_⟩
   rw [hcj, show (((zs.getD j 0).toNat : Nat) : Int) = zs.getD j 0 by omega]
theorem cByte : Tryz.prog.cellsOf 5 = 1 := by kernel_rfl
set_option maxRecDepth 100000 in
theorem open_code {H : Type} {enc : TypeId × Value → H} {w : World} {base : Nat} {held : Bool} {r : Reach} {b0 : Nat} {v : Value} {dd : DataW H} {ps : List MemPlace} (hval : Value.okWide Tryz.prog w r b0 22 v) (hd : DataW.Trod enc Tryz.prog w base (fun _ => true) held 22 v dd ps) :
  ∃ a len cap cs, v = .slice a len cap ∧ len ≤ 9223372036854775807 ∧ CodeIs w w.heap.size a len cs := by
 obtain ⟨a0, len0, cap0, rfl⟩ := okWide_slice Tryz.underlying22 hval
 obtain ⟨fuel, hf⟩ := hd
 rcases open_ints Tryz.underlying22 Tryz.underlying5 cByte hf with ⟨hcs, _⟩ | ⟨x, l, c, zs, hcs, _, hl, hm, hz, _, hcell, hwz⟩
 ·simp [Value.cells] at hcs
  obtain ⟨rfl, rfl, rfl⟩ := hcs
  exact ⟨_, _, _, fun _ => 0, rfl, by omega, .inl rfl⟩
 ·simp [Value.cells] at hcs
  obtain ⟨rfl, rfl, rfl⟩ := hcs
  unfold maxLen at hm
  obtain ⟨cs, hc⟩ := code_of rfl hl (by simpa using hz) hcell hwz
  exact ⟨_, _, _, cs, rfl, by omega, hc⟩
end Go.Proofs.YtgjilgecklhglaaGreat
namespace Go.Proofs.YtgjilgecklhglaaGreat
open Go.RowKit Go.PlainAid
def numCells (l : List Int) : List Value := l.map fun z => Value.int .i64 z
def Nums (w : World) (base : Nat) (v : Value) (l : List Int) : Prop := w.ownsRow base 3 1 v l.length (numCells l)
def NumsV (w : World) (B : Nat) (v : Value) (l : List Int) : Prop :=
 ∃ A cap, v = .slice A l.length cap ∧ l.length ≤ cap ∧ cap ≤ maxLen ∧ ∀ j, j < l.length → ∃ g off, A = some ⟨g, off, none⟩ ∧ g < B ∧ w.cell? ⟨g, off + j, none⟩ = some (.int .i64 (l.getD j 0))
theorem Nums.nil (w : World) (base : Nat) : Nums w base (.slice none 0 0) [] := World.ownsRow_nil w base 3 1
theorem Nums.empty (w : World) (base : Nat) (hb : base ≤ w.heap.size) : Nums (w.alloc (.cells #[] 3)) base (.slice (some ⟨w.heap.size, 0, none⟩) 0 0) [] :=
 World.ownsRow_lit w #[] 0 hb (by unfold maxLen; omega) rfl
theorem Nums.one (w : World) (base : Nat) (z : Int) (hb : base ≤ w.heap.size) : Nums (w.alloc (.cells #[.int .i64 z] 3)) base (.slice (some ⟨w.heap.size, 0, none⟩) 1 1) [z] :=
 World.ownsRow_lit w #[.int .i64 z] 1 hb (by unfold maxLen; omega) rfl
theorem Nums.mono {w : World} {base base' : Nat} {v : Value} {l : List Int} (h : Nums w base v l) (hb : base' ≤ base) : Nums w base' v l :=
 ⟨h.1, h.2.imp id fun ⟨g, cap, cur, e, hg, r⟩ => ⟨g, cap, cur, e, Nat.le_trans hb hg, r⟩⟩
theorem Nums.lt {w : World} {base : Nat} {v : Value} {l : List Int} (h : Nums w base v l) : ∀ k, v.ownBlock = some k → base ≤ k ∧ k < w.heap.size := World.ownsRow.lt h
theorem Nums.kept {w w' : World} {base : Nat} {v : Value} {l : List Int} (h : Nums w base v l) (hk : ∀ g, g < w.heap.size → v.ownBlock = some g → w'.heap[g]? = w.heap[g]?) : Nums w' base v l := by
 have hl := World.ownsRow.lt h
 refine ⟨h.1, h.2.imp id ?_⟩
 rintro ⟨g, cap, cur, rfl, hg, hh, r⟩
 refine ⟨g, cap, cur, rfl, hg, ?_, r⟩
 rw [hk g (hl g rfl).2 rfl]
 exact hh
theorem Nums.on {w w' : World} {base : Nat} {v : Value} {l : List Int} (h : Nums w base v l) (hb : Below w.heap.size w w') : Nums w' base v l := h.kept fun g hg _ => hb.block g hg
theorem Nums.heap {w w' : World} {base : Nat} {v : Value} {l : List Int} (h : Nums w base v l) (hh : w'.heap = w.heap) : Nums w' base v l := h.kept fun g _ _ => by rw [hh]
theorem Nums.alloc {w : World} {base : Nat} {v : Value} {l : List Int} (h : Nums w base v l) (o : Obj) : Nums (w.alloc o) base v l := World.ownsRow.alloc h o
theorem Nums.other {w : World} {base : Nat} {v : Value} {l : List Int} (h : Nums w base v l) {g : Nat} (hne : v.ownBlock ≠ some g) (i : Nat) (x : Value) : Nums (w.setCell ⟨g, i, none⟩ x) base v l :=
 h.kept fun k _ hk => Below.heap_setCell _ _ _ _ (fun e => hne (by rw [hk]; exact congrArg some e))
theorem Nums.others {w w' : World} {base b : Nat} {v : Value} {l : List Int} (h : Nums w base v l) (hk : Lib.OthersKept 5 (some b) w w') (hb : v.ownBlock ≠ some b) : Nums w' base v l :=
 h.kept fun g hg ho => by
  obtain ⟨c, fz, e1⟩ := Lib.ownsRow_kind h g ho
  rw [hk g _ e1 (fun e => hb (by rw [ho]; exact e)) (fun c fz e => by cases e), e1]
theorem Nums.form {w : World} {base : Nat} {v : Value} {l : List Int} (h : Nums w base v l) : (v = .slice none 0 0 ∧ l = []) ∨ ∃ g cap, v = .slice (some ⟨g, 0, none⟩) l.length cap ∧ l.length ≤ cap ∧ cap ≤ maxLen ∧ base ≤ g ∧ g < w.heap.size := by
 have hl := World.ownsRow.lt h
 rcases h.2 with ⟨rfl, h0⟩ | ⟨g, cap, cur, rfl, hg, _, hc, hm, _⟩
 ·exact .inl ⟨rfl, List.eq_nil_of_length_eq_zero h0⟩
 ·exact .inr ⟨g, cap, rfl, hc, hm, hg, (hl g rfl).2⟩
theorem Nums.shape {w : World} {base : Nat} {v : Value} {l : List Int} (h : Nums w base v l) : ∃ A c, v = .slice A l.length c ∧ l.length ≤ c ∧ c ≤ maxLen := by
 rcases h.form with ⟨rfl, rfl⟩ | ⟨g, c, rfl, h1, h2, _⟩
 ·exact ⟨_, _, rfl, by simp, by unfold maxLen; omega⟩
 ·exact ⟨_, _, rfl, h1, h2⟩
theorem Nums.len {w : World} {base n cap : Nat} {A : Option Addr} {l : List Int} (h : Nums w base (.slice A n cap) l) : n = l.length := by
 rcases h.form with ⟨e, e2⟩ | ⟨g', c', e, _⟩
 ·injection e with _ e1; rw [e1, e2]; rfl
 ·injection e
theorem Nums.cell {w : World} {base g cap n : Nat} {l : List Int} (h : Nums w base (.slice (some ⟨g, 0, none⟩) n cap) l) (j : Nat) (hj : j < l.length) : w.cell? ⟨g, j, none⟩ = some (.int .i64 (l.getD j 0)) := by
 have hn := h.len
 subst hn
 rw [World.ownsRow.cellAt h j (by omega)]
 simp [numCells, hj]
theorem Nums.stored {w : World} {base g cap n : Nat} {l : List Int} (h : Nums w base (.slice (some ⟨g, 0, none⟩) n cap) l) (j : Nat) (x : Int) :
  Nums (w.setCell ⟨g, j, none⟩ (.int .i64 x)) base (.slice (some ⟨g, 0, none⟩) n cap) (l.set j x) := by
 have hn := h.len
 subst hn
 have hs := (World.ownsRow.stored h j (.int .i64 x)).1
 unfold Nums
 rw [List.length_set, numCells, List.map_set]
 exact hs
theorem Nums.block {w : World} {base n cap : Nat} {A : Option Addr} {l : List Int} (h : Nums w base (.slice A n cap) l) (hn : 0 < l.length) : ∃ g, A = some ⟨g, 0, none⟩ ∧ base ≤ g ∧ g < w.heap.size := by
 rcases h.form with ⟨e, e2⟩ | ⟨g', c', e, _, _, h3, h4⟩
 ·rw [e2] at hn; simp at hn
 ·injection e with e1; exact ⟨g', e1, h3, h4⟩
theorem Nums.lies {w : World} {base : Nat} {v : Value} {l : List Int} (h : Nums w base v l) : NumsV w w.heap.size v l := by
 rcases h.form with ⟨rfl, rfl⟩ | ⟨g, c, rfl, h1, h2, h3, h4⟩
 ·exact ⟨none, 0, rfl, Nat.zero_le _, by unfold maxLen; omega, fun j hj => by simp at hj⟩
 ·exact ⟨_, c, rfl, h1, h2, fun j hj => ⟨g, 0, rfl, h4, by rw [Nat.zero_add]; exact h.cell j hj⟩⟩
theorem NumsV.on {w w' : World} {B : Nat} {v : Value} {l : List Int} (h : NumsV w B v l) (hb : Below B w w') : NumsV w' B v l := by
 obtain ⟨A, cap, rfl, h1, h2, h3⟩ := h
 refine ⟨A, cap, rfl, h1, h2, fun j hj => ?_⟩
 obtain ⟨g, off, rfl, hg, hc⟩ := h3 j hj
 exact ⟨g, off, rfl, hg, by rw [hb.cell (p := ⟨_, _, none⟩) hg]; exact hc⟩
theorem NumsV.mono {w : World} {B C : Nat} {v : Value} {l : List Int} (h : NumsV w B v l) (hB : B ≤ C) : NumsV w C v l := by
 obtain ⟨A, cap, rfl, h1, h2, h3⟩ := h
 refine ⟨A, cap, rfl, h1, h2, fun j hj => ?_⟩
 obtain ⟨g, off, rfl, hg, hc⟩ := h3 j hj
 exact ⟨g, off, rfl, Nat.lt_of_lt_of_le hg hB, hc⟩
theorem NumsV.heap {w w' : World} {B : Nat} {v : Value} {l : List Int} (h : NumsV w B v l) (hh : w'.heap = w.heap) : NumsV w' B v l := by
 obtain ⟨A, cap, rfl, h1, h2, h3⟩ := h
 refine ⟨A, cap, rfl, h1, h2, fun j hj => ?_⟩
 obtain ⟨g, off, rfl, hg, hc⟩ := h3 j hj
 exact ⟨g, off, rfl, hg, by unfold World.cell? at *; rw [hh]; exact hc⟩
theorem getD_set_ne (l : List Int) (j k : Nat) (x : Int) (h : j ≠ k) : (l.set j x).getD k 0 = l.getD k 0 := by simp [List.getD, List.getElem?_set_ne h]
theorem wpList_append_num {P : Program} {w : World} {ops : Array Oper} {rest : List Oper} {o : Oper} {a : Act} {Q : Exit → Act → World → Prop} (hgd : o.guard = none) (s x : Operand) (t : TypeId)
  (ho : o.op = .call { callee := .builtin .append, args := #[s, x], argTypes := #[t, t] })
  (ht : P.underlying t = some (.slice 3)) (hinfo : (P.info? 3).map (fun i => (i.zero, i.size, i.bytes)) = some (some (.int .i64 0), 1, 8))
  (base : Nat) (v : Value) (l : List Int) (hs : a.eval s = v) (hown : Nums w base v l) (z : Int)
  (hx : a.eval x = .slice (some ⟨w.heap.size, 0, none⟩) 1 1) (hlen : l.length ≤ 2097152) (hbase : base ≤ w.heap.size)
  (h : ∀ v' w', Nums w' base v' (l ++ [z]) → Below base w w' → (∀ g, g < w.heap.size → v.ownBlock ≠ some g → w'.heap[g]? = w.heap[g]?) → wpList P ops Q rest (a.put o.dst v') w') : wpList P ops Q (o :: rest) a (w.alloc (.cells #[.int .i64 z] 3)) := by
 obtain ⟨i0, hi, hz0, hz1, hz2⟩ := info_parts hinfo
 refine wpList_append_own (w := w.alloc (.cells #[.int .i64 z] 3)) hgd s x t ho base 3 i0 (.int .i64 0) 1 8 ht hi hz0 hz1 hz2 rfl (by decide) v l.length (numCells l) hs (hown.alloc _) ⟨w.heap.size, 0, none⟩ 1 1 [.int .i64 z] hx rfl ?_ ?_ ?_ ?_ ?_ ?_
 ·intro j u hj
  have e : (⟨w.heap.size, 0, none⟩ : Addr).add j = ⟨w.heap.size, j, none⟩ := by cases j <;> simp [Addr.add]
  rw [e, World.cell?_alloc_mark]
  simpa using hj
 ·intro u hu
  simp at hu
  subst hu
  rfl
 ·unfold maxLen; omega
 ·omega
 ·simp; omega
 ·intro v' w' h1 h2 _
  have hb0 : ∀ k, v.ownBlock = some k → base ≤ k := fun k hk => (World.ownsRow.lt hown k hk).1
  refine h v' w' ?_ ?_ ?_
  ·unfold Nums
   rw [List.length_append, numCells, List.map_append]
   exact h1
  ·exact ((Below.refl base w).alloc hbase _).grown h2 (by simp; omega) hb0
  ·intro g hg hne
   rw [h2.block g (by simp; omega) (fun e => hne e.symm)]
   exact Below.heap_alloc w _ g hg
end Go.Proofs.YtgjilgecklhglaaGreat
namespace Go.Proofs.YtgjilgecklhglaaGreat
open Go.RowKit Go.PlainAid
structure Nod where
 id : Int
 data : ByteArray
 sure : Int
structure Lnk where
 name : ByteArray
 id : Int
structure Mov where
 kind : Int
 name : ByteArray
 to : ByteArray
 id : Int
structure Dsk where
 room : Int
 next : Int
 nods : List Nod
 dir : List Lnk
 movs : List Mov
instance : Inhabited Nod := ⟨⟨0, ByteArray.empty, 0⟩⟩
instance : Inhabited Lnk := ⟨⟨ByteArray.empty, 0⟩⟩
instance : Inhabited Mov := ⟨⟨0, ByteArray.empty, ByteArray.empty, 0⟩⟩
def nameB (b : Nat) : Bool := (97 ≤ b && b ≤ 122) || (48 ≤ b && b ≤ 57) || b == 46
def nameOk (s : ByteArray) : Bool := decide (1 ≤ s.size) && decide (s.size ≤ 12) && (List.range s.size).all fun j => nameB (bn s j)
def linkAt (l : List Lnk) (name : ByteArray) : Option Nat := l.findIdx? fun x => decide (x.name = name)
def without (l : List Lnk) (name : ByteArray) : List Lnk := l.filter fun x => decide (x.name ≠ name)
def ahead (a b : ByteArray) : Bool := Op.bytesLess a.toList b.toList
def ins (x : Lnk) : List Lnk → List Lnk
 | [] => [x]
 | y :: r => if ahead x.name y.name then x :: y :: r else y :: ins x r
def withL (l : List Lnk) (x : Lnk) : List Lnk := ins x (without l x.name)
def apply (l : List Lnk) (m : Mov) : Option (List Lnk) :=
 if nameOk m.name = false then none
 else if m.kind = 1 ∧ m.to.size = 0 ∧ linkAt l m.name = none then some (withL l ⟨m.name, m.id⟩)
 else match linkAt l m.name with
  | some i =>
   if m.kind = 2 ∧ m.id = 0 ∧ nameOk m.to = true ∧ m.to ≠ m.name then some (withL (without l m.name) ⟨m.to, (l.getD i default).id⟩)
   else if m.kind = 3 ∧ m.id = 0 ∧ m.to.size = 0 then some (without l m.name)
   else none
  | none => none
def names (l : List Lnk) : List Mov → List Lnk
 | [] => l
 | m :: r => names ((apply l m).getD l) r
def nodAt (l : List Nod) (id : Int) : Option Nat := l.findIdx? fun x => decide (x.id = id)
def linked (l : List Lnk) (id : Int) : Bool := l.any fun x => decide (x.id = id)
def made (l : List Mov) (id : Int) : Bool := l.any fun m => decide (m.kind = 1) && decide (m.id = id)
def bytesOf : List Nod → Nat
 | [] => 0
 | x :: r => x.data.size + bytesOf r
end Go.Proofs.YtgjilgecklhglaaGreat
namespace Go.Proofs.YtgjilgecklhglaaGreat
open Go.RowKit Go.PlainAid
def Lies (w : World) (B sz : Nat) (v : Value) (rows : List (List Value)) : Prop :=
 ∃ A cap, v = .slice A rows.length cap ∧ ((A = none → cap = 0) ∧ rows.length ≤ cap) ∧ (∀ r ∈ rows, r.length = sz) ∧ (rows.length = 0 ∨ ∃ g off, A = some ⟨g, off, none⟩ ∧ g < B ∧ ∀ k x, rows.flatten[k]? = some x → w.cell? ⟨g, off + k, none⟩ = some x)
theorem Lies.on {w w' : World} {B sz : Nat} {v : Value} {rows : List (List Value)} (h : Lies w B sz v rows) (hb : Below B w w') : Lies w' B sz v rows := by
 obtain ⟨A, cap, e, hz, hs, h⟩ := h
 refine ⟨A, cap, e, hz, hs, h.imp id ?_⟩
 rintro ⟨g, off, rfl, hg, hc⟩
 refine ⟨g, off, rfl, hg, fun k x hx => ?_⟩
 rw [← hc k x hx]
 exact World.cell?_of_block (w := w) (hb.block g hg)
theorem Lies.heap {w w' : World} {B sz : Nat} {v : Value} {rows : List (List Value)} (h : Lies w B sz v rows) (hh : w'.heap = w.heap) : Lies w' B sz v rows := by
 obtain ⟨A, cap, e, hz, hs, h⟩ := h
 refine ⟨A, cap, e, hz, hs, h.imp id ?_⟩
 rintro ⟨g, off, rfl, hg, hc⟩
 refine ⟨g, off, rfl, hg, fun k x hx => ?_⟩
 rw [← hc k x hx]
 exact World.cell?_of_block (w := w) (by rw [hh])
theorem Lies.mono {w : World} {B C sz : Nat} {v : Value} {rows : List (List Value)} (h : Lies w B sz v rows) (hB : B ≤ C) : Lies w C sz v rows := by
 obtain ⟨A, cap, e, hz, hs, h⟩ := h
 refine ⟨A, cap, e, hz, hs, h.imp id ?_⟩
 rintro ⟨g, off, rfl, hg, hc⟩
 exact ⟨g, off, rfl, by omega, hc⟩
theorem flat_at (sz : Nat) : ∀ (rows : List (List Value)), (∀ r ∈ rows, r.length = sz) → ∀ (j f : Nat) (hj : j < rows.length), f < sz → rows.flatten[j * sz + f]? = (rows[j])[f]?
 | [], _, j, f, hj, _ => by simp at hj
 | r :: rs, hs, 0, f, _, hf => by
  have := hs r (by simp)
  simp only [List.flatten_cons, Nat.zero_mul, Nat.zero_add, List.getElem_cons_zero]
  rw [List.getElem?_append_left (by omega)]
 | r :: rs, hs, j + 1, f, hj, hf => by
  have hr := hs r (by simp)
  have ih := flat_at sz rs (fun r hr => hs r (by simp [hr])) j f (by simp at hj; omega) hf
  simp only [List.flatten_cons, List.getElem_cons_succ]
  rw [List.getElem?_append_right (by rw [hr, Nat.succ_mul]; omega), ← ih, hr]
  congr 1
  rw [Nat.succ_mul]
  omega
theorem flat_length (sz : Nat) (rows : List (List Value)) (hs : ∀ r ∈ rows, r.length = sz) : rows.flatten.length = rows.length * sz := by
 induction rows with
 | nil => simp
 | cons r rs ih =>
  rw [List.flatten_cons, List.length_append, ih (fun r hr => hs r (by simp [hr])), hs r (by simp), List.length_cons, Nat.succ_mul]
  omega
theorem Lies.look {w : World} {B sz : Nat} {v : Value} {rows : List (List Value)} (h : Lies w B sz v rows) : ∃ A cap, v = .slice A rows.length cap ∧ ∀ j (hj : j < rows.length), ∃ g off, A = some ⟨g, off, none⟩ ∧ g < B ∧ ∀ f x, f < sz → (rows[j])[f]? = some x → w.cell? ⟨g, off + (j * sz + f), none⟩ = some x := by
 obtain ⟨A, cap, rfl, _, hs, h⟩ := h
 refine ⟨A, cap, rfl, fun j hj => ?_⟩
 rcases h with h | ⟨g, off, rfl, hg, hc⟩
 ·omega
 ·exact ⟨g, off, rfl, hg, fun f x hf hx => hc _ x (by rw [flat_at sz rows hs j f hj hf]; exact hx)⟩
theorem Lies.room {w : World} {B sz : Nat} {A : Option Addr} {n c : Nat} {rows : List (List Value)} (h : Lies w B sz (.slice A n c) rows) : n = rows.length ∧ n ≤ c := by
 obtain ⟨A', c', e, hz, _⟩ := h
 cases e
 exact ⟨rfl, hz.2⟩
theorem Lies.first {w : World} {B sz : Nat} {A : Option Addr} {n c : Nat} {rows : List (List Value)} (h : Lies w B sz (.slice A n c) rows) (k : Nat) (hk : k ≤ rows.length) : Lies w B sz (.slice A k c) (rows.take k) := by
 obtain ⟨A', c', e, hz, hs, h⟩ := h
 cases e
 have hl : (rows.take k).length = k := by rw [List.length_take]; omega
 refine ⟨A, c, by rw [hl], ⟨hz.1, by rw [hl]; exact Nat.le_trans hk hz.2⟩, fun r hr => hs r (List.mem_of_mem_take hr), ?_⟩
 rw [hl]
 rcases h with h | ⟨g, off, rfl, hg, hc⟩
 ·exact .inl (by omega)
 ·refine .inr ⟨g, off, rfl, hg, fun j x hx => hc j x ?_⟩
  rw [← List.take_append_drop k rows, List.flatten_append, List.getElem?_append_left ((List.getElem?_eq_some_iff.1 hx).1)]
  exact hx
def Owns (w : World) (base : Nat) (e : TypeId) (sz : Nat) (v : Value) (rows : List (List Value)) : Prop := (∀ r ∈ rows, r.length = sz) ∧ w.ownsRow base e sz v rows.length rows.flatten
theorem Owns.lt {w : World} {base : Nat} {e : TypeId} {sz : Nat} {v : Value} {rows : List (List Value)} (h : Owns w base e sz v rows) : ∀ k, v.ownBlock = some k → base ≤ k ∧ k < w.heap.size := World.ownsRow.lt h.2
theorem Owns.lies {w : World} {base : Nat} {e : TypeId} {sz : Nat} {v : Value} {rows : List (List Value)} (h : Owns w base e sz v rows) : Lies w w.heap.size sz v rows := by
 have hlt := h.lt
 have hc := fun g hg => World.ownsRow.cells h.2 (g := g) hg
 rcases h.2.2 with ⟨rfl, h0⟩ | ⟨g, cap, cur, rfl, _, _, hcap, _⟩
 ·exact ⟨none, 0, by rw [h0], ⟨fun _ => rfl, by omega⟩, h.1, .inl h0⟩
 ·refine ⟨_, cap, rfl, ⟨fun e => (by cases e), hcap⟩, h.1, .inr ⟨g, 0, rfl, (hlt g rfl).2, fun k x hx => ?_⟩⟩
  have e : (⟨g, 0, none⟩ : Addr).add k = ⟨g, 0 + k, none⟩ := by cases k <;> simp [Addr.add]
  rw [← e]
  exact hc g rfl k x hx
theorem Owns.kept {w w' : World} {base : Nat} {e : TypeId} {sz : Nat} {v : Value} {rows : List (List Value)} (h : Owns w base e sz v rows) (hk : ∀ g, g < w.heap.size → v.ownBlock = some g → w'.heap[g]? = w.heap[g]?) : Owns w' base e sz v rows := by
 have hl := h.lt
 refine ⟨h.1, h.2.1, h.2.2.imp id ?_⟩
 rintro ⟨g, cap, cur, rfl, hg, hh, r⟩
 refine ⟨g, cap, cur, rfl, hg, ?_, r⟩
 rw [hk g (hl g rfl).2 rfl]
 exact hh
theorem Owns.on {w w' : World} {base : Nat} {e : TypeId} {sz : Nat} {v : Value} {rows : List (List Value)} (h : Owns w base e sz v rows) (hb : Below w.heap.size w w') : Owns w' base e sz v rows := h.kept fun g hg _ => hb.block g hg
theorem Owns.heap {w w' : World} {base : Nat} {e : TypeId} {sz : Nat} {v : Value} {rows : List (List Value)} (h : Owns w base e sz v rows) (hh : w'.heap = w.heap) : Owns w' base e sz v rows := h.kept fun g _ _ => by rw [hh]
theorem Owns.mono {w : World} {base base' : Nat} {e : TypeId} {sz : Nat} {v : Value} {rows : List (List Value)} (h : Owns w base e sz v rows) (hb : base' ≤ base) : Owns w base' e sz v rows :=
 ⟨h.1, h.2.1, h.2.2.imp id fun ⟨g, cap, cur, e, hg, r⟩ => ⟨g, cap, cur, e, Nat.le_trans hb hg, r⟩⟩
def nodC (x : Nod) : List Value := [.int .i64 x.id, .string x.data, .int .i64 x.sure]
def lnkC (x : Lnk) : List Value := [.string x.name, .int .i64 x.id]
def movC (x : Mov) : List Value := [.int .i64 x.kind, .string x.name, .string x.to, .int .i64 x.id]
def nodR (l : List Nod) : List (List Value) := l.map nodC
def lnkR (l : List Lnk) : List (List Value) := l.map lnkC
def movR (l : List Mov) : List (List Value) := l.map movC
theorem getD_mem {α : Type} [Inhabited α] (l : List α) (j : Nat) (h : j < l.length) : l.getD j default ∈ l := by
 rw [List.getD_eq_getElem?_getD, List.getElem?_eq_getElem h]
 exact List.getElem_mem h
theorem getD_at {α : Type} [Inhabited α] (l : List α) (j : Nat) (h : j < l.length) : l[j] = l.getD j default := by
 rw [List.getD_eq_getElem?_getD, List.getElem?_eq_getElem h]
 rfl
theorem take_getD {α : Type} [Inhabited α] (l : List α) (j : Nat) (h : j < l.length) : l.take (j + 1) = l.take j ++ [l.getD j default] := by
 rw [List.take_add_one, List.getElem?_eq_getElem h, ← getD_at l j h]
 rfl
theorem nodR_snoc (l : List Nod) (k : Nat) (h : k < l.length) : nodR (l.take (k + 1)) = nodR (l.take k) ++ [nodC (l.getD k default)] := by
 unfold nodR
 rw [take_getD l k h, List.map_append]
 rfl
theorem nodR_length (l : List Nod) : (nodR l).length = l.length := by simp [nodR]
theorem lnkR_snoc (l : List Lnk) (k : Nat) (h : k < l.length) : lnkR (l.take (k + 1)) = lnkR (l.take k) ++ [lnkC (l.getD k default)] := by
 unfold lnkR
 rw [take_getD l k h, List.map_append]
 rfl
theorem lnkR_length (l : List Lnk) : (lnkR l).length = l.length := by simp [lnkR]
theorem lnkR_append (l m : List Lnk) : lnkR (l ++ m) = lnkR l ++ lnkR m := by simp [lnkR]
theorem movR_snoc (l : List Mov) (k : Nat) (h : k < l.length) : movR (l.take (k + 1)) = movR (l.take k) ++ [movC (l.getD k default)] := by
 unfold movR
 rw [take_getD l k h, List.map_append]
 rfl
theorem movR_length (l : List Mov) : (movR l).length = l.length := by simp [movR]
theorem nod_look {w : World} {B : Nat} {v : Value} {l : List Nod} (h : Lies w B 3 v (nodR l)) : ∃ A cap, v = .slice A l.length cap ∧ ∀ j, j < l.length → ∃ g off, A = some ⟨g, off, none⟩ ∧ g < B ∧
  w.cell? ⟨g, off + j * 3, none⟩ = some (.int .i64 (l.getD j default).id) ∧ w.cell? ⟨g, off + j * 3 + 1, none⟩ = some (.string (l.getD j default).data) ∧ w.cell? ⟨g, off + j * 3 + 2, none⟩ = some (.int .i64 (l.getD j default).sure) := by
 obtain ⟨A, cap, e, h⟩ := h.look
 refine ⟨A, cap, by rw [e]; simp [nodR], fun j hj => ?_⟩
 rw [← getD_at l j hj]
 obtain ⟨g, off, e, hg, hc⟩ := h j (by simpa [nodR] using hj)
 refine ⟨g, off, e, hg, ?_, ?_, ?_⟩
 ·have := hc 0 _ (by omega) (by simp [nodR, nodC]; rfl); simpa [Nat.add_assoc] using this
 ·have := hc 1 _ (by omega) (by simp [nodR, nodC]; rfl); simpa [Nat.add_assoc] using this
 ·have := hc 2 _ (by omega) (by simp [nodR, nodC]; rfl); simpa [Nat.add_assoc] using this
theorem lnk_look {w : World} {B : Nat} {v : Value} {l : List Lnk} (h : Lies w B 2 v (lnkR l)) : ∃ A cap, v = .slice A l.length cap ∧ ∀ j, j < l.length → ∃ g off, A = some ⟨g, off, none⟩ ∧ g < B ∧
  w.cell? ⟨g, off + j * 2, none⟩ = some (.string (l.getD j default).name) ∧ w.cell? ⟨g, off + j * 2 + 1, none⟩ = some (.int .i64 (l.getD j default).id) := by
 obtain ⟨A, cap, e, h⟩ := h.look
 refine ⟨A, cap, by rw [e]; simp [lnkR], fun j hj => ?_⟩
 rw [← getD_at l j hj]
 obtain ⟨g, off, e, hg, hc⟩ := h j (by simpa [lnkR] using hj)
 refine ⟨g, off, e, hg, ?_, ?_⟩
 ·have := hc 0 _ (by omega) (by simp [lnkR, lnkC]; rfl); simpa [Nat.add_assoc] using this
 ·have := hc 1 _ (by omega) (by simp [lnkR, lnkC]; rfl); simpa [Nat.add_assoc] using this
theorem mov_look {w : World} {B : Nat} {v : Value} {l : List Mov} (h : Lies w B 4 v (movR l)) : ∃ A cap, v = .slice A l.length cap ∧ ∀ j, j < l.length → ∃ g off, A = some ⟨g, off, none⟩ ∧ g < B ∧
  w.cell? ⟨g, off + j * 4, none⟩ = some (.int .i64 (l.getD j default).kind) ∧ w.cell? ⟨g, off + j * 4 + 1, none⟩ = some (.string (l.getD j default).name) ∧ w.cell? ⟨g, off + j * 4 + 2, none⟩ = some (.string (l.getD j default).to) ∧ w.cell? ⟨g, off + j * 4 + 3, none⟩ = some (.int .i64 (l.getD j default).id) := by
 obtain ⟨A, cap, e, h⟩ := h.look
 refine ⟨A, cap, by rw [e]; simp [movR], fun j hj => ?_⟩
 rw [← getD_at l j hj]
 obtain ⟨g, off, e, hg, hc⟩ := h j (by simpa [movR] using hj)
 refine ⟨g, off, e, hg, ?_, ?_, ?_, ?_⟩
 ·have := hc 0 _ (by omega) (by simp [movR, movC]; rfl); simpa [Nat.add_assoc] using this
 ·have := hc 1 _ (by omega) (by simp [movR, movC]; rfl); simpa [Nat.add_assoc] using this
 ·have := hc 2 _ (by omega) (by simp [movR, movC]; rfl); simpa [Nat.add_assoc] using this
 ·have := hc 3 _ (by omega) (by simp [movR, movC]; rfl); simpa [Nat.add_assoc] using this
end Go.Proofs.YtgjilgecklhglaaGreat
namespace Go.Proofs.YtgjilgecklhglaaGreat
open Go.RowKit Go.PlainAid
theorem flat_parts (sz : Nat) (rows : List (List Value)) (hs : ∀ r ∈ rows, r.length = sz) (k : Nat) (hk : k < rows.length) :
  ∃ F1 F2 : List Value, F1.length = k * sz ∧ rows.flatten = F1 ++ (rows[k] ++ F2) ∧ ∀ r, (rows.set k r).flatten = F1 ++ (r ++ F2) := by
 refine ⟨(rows.take k).flatten, (rows.drop (k + 1)).flatten, ?_, ?_, ?_⟩
 ·rw [flat_length sz _ (fun r hr => hs r (List.mem_of_mem_take hr)), List.length_take, Nat.min_eq_left (by omega)]
 ·conv => lhs; rw [← List.take_append_drop k rows, List.drop_eq_getElem_cons hk]
  rw [List.flatten_append, List.flatten_cons]
 ·intro r
  rw [List.set_eq_take_append_cons_drop, if_pos hk, List.flatten_append, List.flatten_cons]
section
variable {w : World} {base : Nat} {e : TypeId} {sz g cap : Nat} {rows : List (List Value)}
theorem Owns.free (h : Owns w base e sz (.slice (some ⟨g, 0, none⟩) rows.length cap) rows) (j : Nat) : w.frozen? ⟨g, j, none⟩ = false := World.ownsRow.frozenAt h.2 j
end
section
variable {w : World} {base : Nat} {e : TypeId} {sz g cap n j : Nat} {R : List (List Value)} {r : List Value}
theorem Owns.pokeAt (h : Owns w base e sz (.slice (some ⟨g, 0, none⟩) n cap) (R.set j r)) (hn : R.length = n) (hj : j < n) (f : Nat) (hf : f < sz) (x : Value) :
  Owns (w.setCell ⟨g, j * sz + f, none⟩ x) base e sz (.slice (some ⟨g, 0, none⟩) n cap) (R.set j (r.set f x)) := by
 subst hn
 have hl : (R.set j r).length = R.length := List.length_set
 have h2 := h.2
 rw [hl] at h2
 have h1 := (World.ownsRow.stored h2 (j * sz + f) x).1
 obtain ⟨F1, F2, l1, e1, e2⟩ := flat_parts sz (R.set j r) h.1 j (by rw [hl]; exact hj)
 have hrr : (R.set j r)[j]'(by rw [hl]; exact hj) = r := by simp
 have hr : r.length = sz := by rw [← hrr]; exact h.1 _ (List.getElem_mem _)
 have e3 := e2 (r.set f x)
 rw [List.set_set] at e3
 refine ⟨?_, ?_⟩
 ·intro y hy
  obtain ⟨i, hi, rfl⟩ := List.getElem_of_mem hy
  have hi2 : i < R.length := by simpa using hi
  by_cases hij : i = j
  ·subst hij
   rw [List.getElem_set_self, List.length_set]
   exact hr
  ·have : (R.set j (r.set f x))[i]'hi = (R.set j r)[i]'(by rw [hl]; exact hi2) := by rw [List.getElem_set_ne (Ne.symm hij), List.getElem_set_ne (Ne.symm hij)]
   rw [this]
   exact h.1 _ (List.getElem_mem _)
 ·rw [List.length_set, e3]
  rw [e1, hrr] at h1
  have : (F1 ++ (r ++ F2)).set (j * sz + f) x = F1 ++ (r.set f x ++ F2) := by
   rw [← l1, List.set_append_right _ _ (by omega), List.set_append_left _ _ (by omega)]
   simp
  rw [this] at h1
  exact h1
theorem Owns.free2 (h : Owns w base e sz (.slice (some ⟨g, 0, none⟩) n cap) (R.set j r)) (hn : R.length = n) (k : Nat) : w.frozen? ⟨g, k, none⟩ = false := by
 subst hn
 have hl : (R.set j r).length = R.length := List.length_set
 have h2 := h
 rw [← hl] at h2
 exact h2.free k
end
end Go.Proofs.YtgjilgecklhglaaGreat
namespace Go.Proofs.YtgjilgecklhglaaGreat
open Go.ChangeShapes Go.WideShapes Go.ChangeAt Go.RowKit Go.PlainAid
set_option linter.unusedVariables false
def wtN1 (x : Nod) : Nat := x.data.size
def wtN : List Nod → Nat
 | [] => 0
 | x :: r => wtN1 x + wtN r
def wtL1 (x : Lnk) : Nat := x.name.size
def wtL : List Lnk → Nat
 | [] => 0
 | x :: r => wtL1 x + wtL r
def vLnk (x : Lnk) : Value := .agg #[.string x.name, .int .i64 x.id]
def wtM1 (x : Mov) : Nat := x.name.size + x.to.size
def wtM : List Mov → Nat
 | [] => 0
 | x :: r => wtM1 x + wtM r
structure Fits (d : Dsk) : Prop where
 n : d.nods.length ≤ maxLen
 l : d.dir.length ≤ maxLen
 m : d.movs.length ≤ maxLen
 nx : ∀ x ∈ d.nods, x.data.size ≤ maxLen
 lx : ∀ x ∈ d.dir, x.name.size ≤ maxLen
 mx : ∀ x ∈ d.movs, x.name.size ≤ maxLen ∧ x.to.size ≤ maxLen
def DiskV (w : World) (B : Nat) (v : Value) (d : Dsk) : Prop := ∃ v1 v2 v3, v = .agg #[.int .i64 d.room, .int .i64 d.next, v1, v2, v3] ∧ Lies w B 3 v1 (nodR d.nods) ∧ Lies w B 2 v2 (lnkR d.dir) ∧ Lies w B 4 v3 (movR d.movs)
theorem DiskV.on {w w' : World} {B : Nat} {v : Value} {d : Dsk} (h : DiskV w B v d) (hb : Below B w w') : DiskV w' B v d := by
 obtain ⟨v1, v2, v3, e, h1, h2, h3⟩ := h
 exact ⟨v1, v2, v3, e, h1.on hb, h2.on hb, h3.on hb⟩
theorem DiskV.mono {w : World} {B C : Nat} {v : Value} {d : Dsk} (h : DiskV w B v d) (hB : B ≤ C) : DiskV w C v d := by
 obtain ⟨v1, v2, v3, e, h1, h2, h3⟩ := h
 exact ⟨v1, v2, v3, e, h1.mono hB, h2.mono hB, h3.mono hB⟩
def wtD (d : Dsk) : Nat := d.nods.length + wtN d.nods + (d.dir.length + wtL d.dir) + (d.movs.length + wtM d.movs)
end Go.Proofs.YtgjilgecklhglaaGreat
namespace Go.Proofs.YtgjilgecklhglaaGreat
open Go.RowKit Go.PlainAid
def Blk (w : World) (g : Nat) (cs : Array Value) (t : TypeId) : Prop := w.heap[g]? = some (.cells cs t (0, 0))
theorem Blk.lt {w : World} {g : Nat} {cs : Array Value} {t : TypeId} (h : Blk w g cs t) : g < w.heap.size := lt_of_block h
theorem Blk.cell {w : World} {g : Nat} {cs : Array Value} {t : TypeId} (h : Blk w g cs t) (i : Nat) (x : Value) (hx : cs[i]? = some x) : w.cell? ⟨g, i, none⟩ = some x := by
 rw [cell_of_row w g i cs t (0, 0) h]
 exact hx
theorem Blk.free {w : World} {g : Nat} {cs : Array Value} {t : TypeId} (h : Blk w g cs t) (i : Nat) : w.frozen? ⟨g, i, none⟩ = false := frozen_of_row w g i cs t h
theorem Blk.set {w : World} {g : Nat} {cs : Array Value} {t : TypeId} (h : Blk w g cs t) (i : Nat) (x : Value) : Blk (w.setCell ⟨g, i, none⟩ x) g (cs.setIfInBounds i x) t := heap_setCell_same w g i cs t x h
theorem Blk.other {w : World} {g g' : Nat} {cs : Array Value} {t : TypeId} (h : Blk w g cs t) (hne : g ≠ g') (i : Nat) (x : Value) : Blk (w.setCell ⟨g', i, none⟩ x) g cs t := by
 unfold Blk
 rw [Below.heap_setCell _ _ _ _ hne]
 exact h
theorem Blk.on {w w' : World} {B g : Nat} {cs : Array Value} {t : TypeId} (h : Blk w g cs t) (hb : Below B w w') (hg : g < B) : Blk w' g cs t := by
 unfold Blk
 rw [hb.block g hg]
 exact h
theorem Blk.new (w : World) (cs : Array Value) (t : TypeId) : Blk (w.alloc (.cells cs t)) w.heap.size cs t := heap_alloc_new w _
theorem Blk.alloc {w : World} {g : Nat} {cs : Array Value} {t : TypeId} (h : Blk w g cs t) (o : Obj) : Blk (w.alloc o) g cs t := by
 unfold Blk
 rw [Below.heap_alloc w o g h.lt]
 exact h
theorem Owns.other {w : World} {base : Nat} {e : TypeId} {sz : Nat} {v : Value} {rows : List (List Value)} (h : Owns w base e sz v rows) {g : Nat} (hne : v.ownBlock ≠ some g) (i : Nat) (x : Value) : Owns (w.setCell ⟨g, i, none⟩ x) base e sz v rows :=
 h.kept fun k _ hk => Below.heap_setCell _ _ _ _ (fun e => hne (by rw [hk]; exact congrArg some e))
theorem Owns.below {w : World} {base : Nat} {e : TypeId} {sz : Nat} {v : Value} {rows : List (List Value)} (h : Owns w base e sz v rows) {g : Nat} (hg : g < base) : v.ownBlock ≠ some g := fun e => by
 have := (h.lt g e).1
 omega
theorem Owns.shape {w : World} {base : Nat} {e : TypeId} {sz : Nat} {v : Value} {rows : List (List Value)} (h : Owns w base e sz v rows) : ∃ A m c, v = .slice A m c := by
 rcases h.2.2 with ⟨rfl, _⟩ | ⟨g, cap, cur, rfl, _⟩
 ·exact ⟨_, _, _, rfl⟩
 ·exact ⟨_, _, _, rfl⟩
def DiskO (w : World) (base : Nat) (v : Value) (d : Dsk) : Prop := ∃ v1 v2 v3, v = .agg #[.int .i64 d.room, .int .i64 d.next, v1, v2, v3] ∧ Owns w base 47 3 v1 (nodR d.nods) ∧ Owns w base 49 2 v2 (lnkR d.dir) ∧ Owns w base 51 4 v3 (movR d.movs)
theorem DiskO.on {w w' : World} {base : Nat} {v : Value} {d : Dsk} (h : DiskO w base v d) (hb : Below w.heap.size w w') : DiskO w' base v d := by
 obtain ⟨v1, v2, v3, e, h1, h2, h3⟩ := h
 exact ⟨v1, v2, v3, e, h1.on hb, h2.on hb, h3.on hb⟩
theorem DiskO.mono {w : World} {base base' : Nat} {v : Value} {d : Dsk} (h : DiskO w base v d) (hb : base' ≤ base) : DiskO w base' v d := by
 obtain ⟨v1, v2, v3, e, h1, h2, h3⟩ := h
 exact ⟨v1, v2, v3, e, h1.mono hb, h2.mono hb, h3.mono hb⟩
theorem DiskO.look {w : World} {base : Nat} {v : Value} {d : Dsk} (h : DiskO w base v d) : DiskV w w.heap.size v d := by
 obtain ⟨v1, v2, v3, e, h1, h2, h3⟩ := h
 exact ⟨v1, v2, v3, e, h1.lies, h2.lies, h3.lies⟩
end Go.Proofs.YtgjilgecklhglaaGreat
namespace Go.Proofs.YtgjilgecklhglaaGreat
open Go.ChangeShapes Go.WideShapes Go.ChangeAt Go.RowKit Go.PlainAid
set_option linter.unusedVariables false
theorem resC5 {w : World} {g : Nat} {a0 a1 a2 a3 a4 x0 x1 x2 x3 x4 : Value} {t : TypeId} (h : Blk w g #[a0, a1, a2, a3, a4] t) :
  (w.cell? ⟨g, 0, none⟩ = some a0 ∧ w.frozen? ⟨g, 0, none⟩ = false) ∧ ((w.setCell ⟨g, 0, none⟩ x0).cell? ⟨g, 1, none⟩ = some a1 ∧ (w.setCell ⟨g, 0, none⟩ x0).frozen? ⟨g, 1, none⟩ = false) ∧ (((w.setCell ⟨g, 0, none⟩ x0).setCell ⟨g, 1, none⟩ x1).cell? ⟨g, 2, none⟩ = some a2 ∧ ((w.setCell ⟨g, 0, none⟩ x0).setCell ⟨g, 1, none⟩ x1).frozen? ⟨g, 2, none⟩ = false) ∧ ((((w.setCell ⟨g, 0, none⟩ x0).setCell ⟨g, 1, none⟩ x1).setCell ⟨g, 2, none⟩ x2).cell? ⟨g, 3, none⟩ = some a3 ∧ (((w.setCell ⟨g, 0, none⟩ x0).setCell ⟨g, 1, none⟩ x1).setCell ⟨g, 2, none⟩ x2).frozen? ⟨g, 3, none⟩ = false) ∧ (((((w.setCell ⟨g, 0, none⟩ x0).setCell ⟨g, 1, none⟩ x1).setCell ⟨g, 2, none⟩ x2).setCell ⟨g, 3, none⟩ x3).cell? ⟨g, 4, none⟩ = some a4 ∧ ((((w.setCell ⟨g, 0, none⟩ x0).setCell ⟨g, 1, none⟩ x1).setCell ⟨g, 2, none⟩ x2).setCell ⟨g, 3, none⟩ x3).frozen? ⟨g, 4, none⟩ = false) ∧
  (((((w.setCell ⟨g, 0, none⟩ x0).setCell ⟨g, 1, none⟩ x1).setCell ⟨g, 2, none⟩ x2).setCell ⟨g, 3, none⟩ x3).setCell ⟨g, 4, none⟩ x4).cell? ⟨g, 0, none⟩ = some x0 ∧ (((((w.setCell ⟨g, 0, none⟩ x0).setCell ⟨g, 1, none⟩ x1).setCell ⟨g, 2, none⟩ x2).setCell ⟨g, 3, none⟩ x3).setCell ⟨g, 4, none⟩ x4).cell? ⟨g, 1, none⟩ = some x1 ∧ (((((w.setCell ⟨g, 0, none⟩ x0).setCell ⟨g, 1, none⟩ x1).setCell ⟨g, 2, none⟩ x2).setCell ⟨g, 3, none⟩ x3).setCell ⟨g, 4, none⟩ x4).cell? ⟨g, 2, none⟩ = some x2 ∧ (((((w.setCell ⟨g, 0, none⟩ x0).setCell ⟨g, 1, none⟩ x1).setCell ⟨g, 2, none⟩ x2).setCell ⟨g, 3, none⟩ x3).setCell ⟨g, 4, none⟩ x4).cell? ⟨g, 3, none⟩ = some x3 ∧ (((((w.setCell ⟨g, 0, none⟩ x0).setCell ⟨g, 1, none⟩ x1).setCell ⟨g, 2, none⟩ x2).setCell ⟨g, 3, none⟩ x3).setCell ⟨g, 4, none⟩ x4).cell? ⟨g, 4, none⟩ = some x4 := by
 have h1 : Blk (w.setCell ⟨g, 0, none⟩ x0) g #[x0, a1, a2, a3, a4] t := h.set 0 x0
 have h2 : Blk ((w.setCell ⟨g, 0, none⟩ x0).setCell ⟨g, 1, none⟩ x1) g #[x0, x1, a2, a3, a4] t := h1.set 1 x1
 have h3 : Blk (((w.setCell ⟨g, 0, none⟩ x0).setCell ⟨g, 1, none⟩ x1).setCell ⟨g, 2, none⟩ x2) g #[x0, x1, x2, a3, a4] t := h2.set 2 x2
 have h4 : Blk ((((w.setCell ⟨g, 0, none⟩ x0).setCell ⟨g, 1, none⟩ x1).setCell ⟨g, 2, none⟩ x2).setCell ⟨g, 3, none⟩ x3) g #[x0, x1, x2, x3, a4] t := h3.set 3 x3
 have h5 : Blk (((((w.setCell ⟨g, 0, none⟩ x0).setCell ⟨g, 1, none⟩ x1).setCell ⟨g, 2, none⟩ x2).setCell ⟨g, 3, none⟩ x3).setCell ⟨g, 4, none⟩ x4) g #[x0, x1, x2, x3, x4] t := h4.set 4 x4
 exact ⟨⟨h.cell 0 _ rfl, h.free 0⟩, ⟨h1.cell 1 _ rfl, h1.free 1⟩, ⟨h2.cell 2 _ rfl, h2.free 2⟩, ⟨h3.cell 3 _ rfl, h3.free 3⟩, ⟨h4.cell 4 _ rfl, h4.free 4⟩, h5.cell 0 _ rfl, h5.cell 1 _ rfl, h5.cell 2 _ rfl, h5.cell 3 _ rfl, h5.cell 4 _ rfl⟩
theorem blkC5 {w : World} {g : Nat} {a0 a1 a2 a3 a4 x0 x1 x2 x3 x4 : Value} {t : TypeId} (h : Blk w g #[a0, a1, a2, a3, a4] t) : Blk (((((w.setCell ⟨g, 0, none⟩ x0).setCell ⟨g, 1, none⟩ x1).setCell ⟨g, 2, none⟩ x2).setCell ⟨g, 3, none⟩ x3).setCell ⟨g, 4, none⟩ x4) g #[x0, x1, x2, x3, x4] t := by
 have h1 : Blk (w.setCell ⟨g, 0, none⟩ x0) g #[x0, a1, a2, a3, a4] t := h.set 0 x0
 have h2 : Blk ((w.setCell ⟨g, 0, none⟩ x0).setCell ⟨g, 1, none⟩ x1) g #[x0, x1, a2, a3, a4] t := h1.set 1 x1
 have h3 : Blk (((w.setCell ⟨g, 0, none⟩ x0).setCell ⟨g, 1, none⟩ x1).setCell ⟨g, 2, none⟩ x2) g #[x0, x1, x2, a3, a4] t := h2.set 2 x2
 have h4 : Blk ((((w.setCell ⟨g, 0, none⟩ x0).setCell ⟨g, 1, none⟩ x1).setCell ⟨g, 2, none⟩ x2).setCell ⟨g, 3, none⟩ x3) g #[x0, x1, x2, x3, a4] t := h3.set 3 x3
 have h5 : Blk (((((w.setCell ⟨g, 0, none⟩ x0).setCell ⟨g, 1, none⟩ x1).setCell ⟨g, 2, none⟩ x2).setCell ⟨g, 3, none⟩ x3).setCell ⟨g, 4, none⟩ x4) g #[x0, x1, x2, x3, x4] t := h4.set 4 x4
 exact h5
theorem belowC5 {w w' : World} {B g : Nat} (h : Below B w w') (hg : B ≤ g) (x0 x1 x2 x3 x4 : Value) : Below B w (((((w'.setCell ⟨g, 0, none⟩ x0).setCell ⟨g, 1, none⟩ x1).setCell ⟨g, 2, none⟩ x2).setCell ⟨g, 3, none⟩ x3).setCell ⟨g, 4, none⟩ x4) := (((((h.setCell hg _).setCell hg _).setCell hg _).setCell hg _).setCell hg _)
theorem cellsC5 {w : World} {g : Nat} {a0 a1 a2 a3 a4 : Value} {t : TypeId} (h : Blk w g #[a0, a1, a2, a3, a4] t) : w.cell? ⟨g, 0, none⟩ = some a0 ∧ w.cell? ⟨g, 1, none⟩ = some a1 ∧ w.cell? ⟨g, 2, none⟩ = some a2 ∧ w.cell? ⟨g, 3, none⟩ = some a3 ∧ w.cell? ⟨g, 4, none⟩ = some a4 := ⟨h.cell 0 _ rfl, h.cell 1 _ rfl, h.cell 2 _ rfl, h.cell 3 _ rfl, h.cell 4 _ rfl⟩
end Go.Proofs.YtgjilgecklhglaaGreat
namespace Go.Proofs.YtgjilgecklhglaaGreat
open Go.RowKit Go.PlainAid Go.Maps
def nameK (s : ByteArray) : Lit := .string s.data.toList
def linkD (l : List Lnk) : DataW Unit := .map (l.map fun x => (nameK x.name, .lit (.int .i64 x.id)))
def ptrD (l : List (Int × Nat)) : DataW Unit := .map (l.map fun p => (.int .i64 p.1, .lit (.int .i64 (p.2 : Int))))
theorem bytes_eq {a b : ByteArray} (h : a.data.toList = b.data.toList) : a = b := by
 apply ByteArray.ext
 exact Array.toList_inj.1 h
theorem nameK_same (a b : ByteArray) : (nameK a).sameKey (nameK b) = decide (a = b) := by
 unfold nameK Lit.sameKey
 by_cases h : a = b
 ·subst h; simp
 ·rw [decide_eq_false h]
  exact beq_eq_false_iff_ne.2 fun e => h (bytes_eq e)
theorem before_less : ∀ a b : List UInt8, bytesBefore a b = Op.bytesLess a b
 | [], [] => rfl
 | _ :: _, [] => rfl
 | [], _ :: _ => rfl
 | a :: x, b :: y => by
  unfold bytesBefore Op.bytesLess
  rw [before_less x y]
theorem nameK_before (a b : ByteArray) : (nameK a).before (nameK b) = ahead a b := by
 show bytesBefore a.data.toList b.data.toList = Op.bytesLess a.toList b.toList
 rw [before_less, Lib.toList_data, Lib.toList_data]
theorem ins_insert (x : Lnk) : ∀ l : List Lnk, (ins x l).map (fun y => ((nameK y.name, .lit (.int .i64 y.id)) : Lit × DataW Unit)) = DataW.insert (nameK x.name, .lit (.int .i64 x.id)) (l.map fun y => (nameK y.name, .lit (.int .i64 y.id)))
 | [] => rfl
 | y :: r => by
  unfold ins
  rw [List.map_cons]
  unfold DataW.insert
  rw [nameK_before]
  by_cases h : ahead x.name y.name = true
  ·rw [if_pos h, if_pos h]; rfl
  ·rw [if_neg h, if_neg h, List.map_cons, ins_insert x r]
theorem filter_links (l : List Lnk) (name : ByteArray) : (l.map fun y => ((nameK y.name, .lit (.int .i64 y.id)) : Lit × DataW Unit)).filter (fun p => !p.1.sameKey (nameK name)) = (without l name).map fun y => (nameK y.name, .lit (.int .i64 y.id)) := by
 unfold without
 rw [List.filter_map]
 congr 1
 apply List.filter_congr
 intro x _
 simp only [Function.comp, nameK_same]
 by_cases h : x.name = name <;> simp [h]
theorem linkD_put (l : List Lnk) (x : Lnk) : (linkD l).put (nameK x.name) (.lit (.int .i64 x.id)) = linkD (withL l x) := by
 unfold linkD DataW.put withL
 simp only
 rw [filter_links, ins_insert]
theorem linkD_del (l : List Lnk) (name : ByteArray) : (linkD l).del (nameK name) = linkD (without l name) := by
 unfold linkD DataW.del
 simp only
 rw [filter_links]
theorem linkD_has (l : List Lnk) (name : ByteArray) : has (linkD l) (nameK name) = (linkAt l name).isSome := by
 unfold linkD linkAt
 rw [has_eq, List.any_map, List.findIdx?_isSome]
 congr 1
 funext x
 simp only [Function.comp, nameK_same]
theorem linkD_at (l : List Lnk) (name : ByteArray) (i : Nat) (h : linkAt l name = some i) (z : DataW Unit) : (linkD l).atKey (nameK name) z = .lit (.int .i64 (l.getD i default).id) := by
 unfold linkAt at h
 rw [List.findIdx?_eq_some_iff_getElem] at h
 obtain ⟨hi, hp, hn⟩ := h
 have hf : l.find? (fun x => decide (x.name = name)) = some l[i] := by
  rw [List.find?_eq_some_iff_getElem]
  exact ⟨hp, i, hi, rfl, fun j hj => by simpa using hn j hj⟩
 unfold linkD DataW.atKey
 simp only
 rw [List.find?_map]
 have e : ((fun p : Lit × DataW Unit => p.1.sameKey (nameK name)) ∘ fun y : Lnk => (nameK y.name, .lit (.int .i64 y.id))) = fun x : Lnk => decide (x.name = name) := by
  funext x
  simp only [Function.comp, nameK_same]
 rw [e, hf, ← getD_at l i hi]
 rfl
theorem linkD_none (l : List Lnk) (name : ByteArray) (h : linkAt l name = none) (z : DataW Unit) : (linkD l).atKey (nameK name) z = z := by
 refine atKey_of_not_has ?_ z
 rw [linkD_has, h]
 rfl
theorem linkD_size (l : List Lnk) : Maps.size (linkD l) = l.length := by
 unfold linkD
 rw [size_eq, List.length_map]
def ptrAt (l : List (Int × Nat)) (id : Int) : Option Nat := (l.find? fun p => decide (p.1 = id)).map (·.2)
def ptrDel (l : List (Int × Nat)) (id : Int) : List (Int × Nat) := l.filter fun p => decide (p.1 ≠ id)
theorem intK_same (a b : Int) : (Lit.int .i64 a).sameKey (.int .i64 b) = decide (a = b) := by
 unfold Lit.sameKey
 simp
theorem ptrD_del (l : List (Int × Nat)) (id : Int) : (ptrD l).del (.int .i64 id) = ptrD (ptrDel l id) := by
 unfold ptrD DataW.del ptrDel
 simp only
 rw [List.filter_map]
 congr 2
 apply List.filter_congr
 intro x _
 simp only [Function.comp, intK_same]
 by_cases h : x.1 = id <;> simp [h]
theorem ptrD_has (l : List (Int × Nat)) (id : Int) : has (ptrD l) (.int .i64 id) = (ptrAt l id).isSome := by
 unfold ptrD ptrAt
 rw [has_eq, List.any_map, Option.isSome_map, Bool.eq_iff_iff, List.find?_isSome, List.any_eq_true]
 simp only [Function.comp, intK_same]
theorem ptrD_at (l : List (Int × Nat)) (id : Int) (z : DataW Unit) : (ptrD l).atKey (.int .i64 id) z = match ptrAt l id with | some g => .lit (.int .i64 (g : Int)) | none => z := by
 unfold ptrD DataW.atKey ptrAt
 simp only
 rw [List.find?_map]
 have e : ((fun p : Lit × DataW Unit => p.1.sameKey (.int .i64 id)) ∘ fun y : Int × Nat => ((.int .i64 y.1 : Lit), (.lit (.int .i64 (y.2 : Int)) : DataW Unit))) = fun x : Int × Nat => decide (x.1 = id) := by
  funext x
  simp only [Function.comp, intK_same]
 rw [e]
 cases l.find? fun p => decide (p.1 = id) <;> rfl
theorem ptrD_size (l : List (Int × Nat)) : Maps.size (ptrD l) = l.length := by
 unfold ptrD
 rw [size_eq, List.length_map]
theorem insert_last (k : Int) (d : DataW Unit) : ∀ l : List (Int × Nat), (∀ p ∈ l, p.1 < k) → DataW.insert (.int .i64 k, d) (l.map fun p => ((.int .i64 p.1 : Lit), (.lit (.int .i64 (p.2 : Int)) : DataW Unit))) = (l.map fun p => (.int .i64 p.1, .lit (.int .i64 (p.2 : Int)))) ++ [(.int .i64 k, d)]
 | [], _ => rfl
 | p :: r, h => by
  rw [List.map_cons]
  unfold DataW.insert
  have h1 := h p (by simp)
  have e : (Lit.int .i64 k).before (.int .i64 p.1) = false := by
   unfold Lit.before
   exact decide_eq_false (by omega)
  rw [e, insert_last k d r fun q hq => h q (by simp [hq])]
  rfl
theorem ptrD_put (l : List (Int × Nat)) (id : Int) (g : Nat) (h : ∀ p ∈ l, p.1 < id) : (ptrD l).put (.int .i64 id) (.lit (.int .i64 (g : Int))) = ptrD (l ++ [(id, g)]) := by
 unfold ptrD DataW.put
 simp only
 have e : (l.map fun p => ((.int .i64 p.1 : Lit), (.lit (.int .i64 (p.2 : Int)) : DataW Unit))).filter (fun p => !p.1.sameKey (.int .i64 id)) = l.map fun p => (.int .i64 p.1, .lit (.int .i64 (p.2 : Int))) := by
  apply List.filter_eq_self.2
  intro p hp
  obtain ⟨q, hq, rfl⟩ := List.mem_map.1 hp
  have := h q hq
  simp only [intK_same]
  rw [decide_eq_false (by omega)]
  rfl
 rw [e, insert_last id _ l h, List.map_append]
 rfl
def ptrElem : Value → Option (DataW Unit × List MemPlace)
 | .pointer none => some (.nil, [])
 | .pointer (some ⟨g, 0, none⟩) => some (.lit (.int .i64 (g : Int)), [])
 | _ => none
theorem ptrElem_mk (g : Nat) : ptrElem (.pointer (some ⟨g, 0, none⟩)) = some (.lit (.int .i64 (g : Int)), []) := rfl
theorem ptrElem_inv {v : Value} {g : Nat} {ps : List MemPlace} (h : ptrElem v = some (.lit (.int .i64 (g : Int)), ps)) : v = .pointer (some ⟨g, 0, none⟩) := by
 unfold ptrElem at h
 split at h
 ·cases h
 ·rename_i g' 
  cases h
  rfl
 ·cases h
theorem ptrElem_inv_nil {v : Value} {ps : List MemPlace} (h : ptrElem v = some (.nil, ps)) : v = .pointer none := by
 unfold ptrElem at h
 split at h
 ·rfl
 ·cases h
 ·cases h
end Go.Proofs.YtgjilgecklhglaaGreat
namespace Go.Proofs.YtgjilgecklhglaaGreat
open Go.RowKit Go.PlainAid Go.Maps Go.ChangeMaps Go.WideMaps
structure But (S : Nat → Prop) (w w' : World) : Prop where
 os : w'.os = w.os
 tape : w'.tape = w.tape
 output : w'.output = w.output
 size : w.heap.size ≤ w'.heap.size
 block : ∀ k, k < w.heap.size → ¬ S k → w'.heap[k]? = w.heap[k]?
theorem But.refl (S : Nat → Prop) (w : World) : But S w w := ⟨rfl, rfl, rfl, Nat.le_refl _, fun _ _ _ => rfl⟩
theorem But.trans {S T : Nat → Prop} {a b c : World} (h : But S a b) (k : But T b c) (hs : ∀ i, i < a.heap.size → T i → S i) : But S a c :=
 ⟨k.os.trans h.os, k.tape.trans h.tape, k.output.trans h.output, Nat.le_trans h.size k.size, fun i hi hn => (k.block i (Nat.lt_of_lt_of_le hi h.size) (fun ht => hn (hs i hi ht))).trans (h.block i hi hn)⟩
theorem But.below {S : Nat → Prop} {w w' : World} (h : But S w w') (B : Nat) (hB : B ≤ w.heap.size) (hs : ∀ i, i < B → ¬ S i) : Below B w w' :=
 ⟨h.os, h.tape, h.output, h.size, fun i hi => h.block i (Nat.lt_of_lt_of_le hi hB) (hs i hi)⟩
theorem But.mono {S T : Nat → Prop} {w w' : World} (h : But S w w') (hs : ∀ i, i < w.heap.size → S i → T i) : But T w w' :=
 ⟨h.os, h.tape, h.output, h.size, fun i hi hn => h.block i hi fun k => hn (hs i hi k)⟩
theorem But.of_below {w w' : World} (S : Nat → Prop) (h : Below w.heap.size w w') : But S w w' := ⟨h.os, h.tape, h.output, h.size, fun i hi _ => h.block i hi⟩
theorem But.of_grown {w w' : World} {b : Nat} (h : w.grownBy w' (some b)) : But (fun i => i = b) w w' := ⟨h.os, h.tape, h.output, h.size, fun i hi hn => h.block i hi fun e => hn (by cases e; rfl)⟩
theorem But.alloc {S : Nat → Prop} {a w : World} (h : But S a w) (o : Obj) : But S a (w.alloc o) := h.trans (But.of_below (fun _ => False) ((Below.refl _ w).alloc (Nat.le_refl _) o)) (fun _ _ k => k.elim)
theorem But.drew {S : Nat → Prop} {a w : World} (h : But S a w) : But S a w.drew := ⟨h.os, h.tape, h.output, h.size, h.block⟩
theorem But.drewN {S : Nat → Prop} {a w : World} (h : But S a w) (n : Nat) : But S a (w.drewN n) := ⟨h.os, h.tape, h.output, h.size, h.block⟩
theorem But.setCell {S : Nat → Prop} {a w : World} (h : But S a w) {p : Addr} (hp : p.block < a.heap.size → S p.block) (u : Value) : But S a (w.setCell p u) :=
 ⟨h.os, h.tape, h.output, by
  have : (w.setCell p u).heap.size = w.heap.size := by simp [World.setCell]
  rw [this]
  exact h.size, fun i hi hn => by
  rw [Below.heap_setCell _ _ _ _ (fun e : i = p.block => hn (by subst e; exact hp hi))]
  exact h.block i hi hn⟩
theorem But.blk {S : Nat → Prop} {w w' : World} {g : Nat} {cs : Array Value} {t : TypeId} (h : But S w w') (hb : Blk w g cs t) (hn : ¬ S g) : Blk w' g cs t := by
 unfold Blk
 rw [h.block g hb.lt hn]
 exact hb
theorem But.lies {S : Nat → Prop} {w w' : World} {B sz : Nat} {v : Value} {rows : List (List Value)} (h : But S w w') (hv : Lies w B sz v rows) (hB : B ≤ w.heap.size) (hs : ∀ i, i < B → ¬ S i) : Lies w' B sz v rows := hv.on (h.below B hB hs)
def intElem : Value → Option (DataW Unit × List MemPlace)
 | .int .i64 a => some (.lit (.int .i64 a), [])
 | _ => none
theorem intElem_inv {v : Value} {a : Int} {ps : List MemPlace} (h : intElem v = some (.lit (.int .i64 a), ps)) : v = .int .i64 a := by
 unfold intElem at h
 split at h
 ·cases h; rfl
 ·cases h
def NT (w : World) (b : Nat) (l : List Lnk) : Prop := ∃ n, w.ownsMap Tryz.prog 9 intElem b n (linkD l)
theorem NT.lt {w : World} {b : Nat} {l : List Lnk} (h : NT w b l) : b < w.heap.size := let ⟨_, h⟩ := h; h.lt
theorem NT.kept {w w' : World} {b : Nat} {l : List Lnk} (h : NT w b l) (hb : w'.heap[b]? = w.heap[b]?) : NT w' b l := by
 obtain ⟨n, es, clock, h1, h2⟩ := h
 exact ⟨n, es, clock, hb.trans h1, h2⟩
theorem NT.on {w w' : World} {b B : Nat} {l : List Lnk} (h : NT w b l) (hb : Below B w w') (hB : b < B) : NT w' b l := h.kept (hb.block b hB)
theorem NT.but {S : Nat → Prop} {w w' : World} {b : Nat} {l : List Lnk} (h : NT w b l) (hb : But S w w') (hn : ¬ S b) : NT w' b l := h.kept (hb.block b h.lt hn)
theorem NT.tight {w : World} {b : Nat} {l : List Lnk} (h : NT w b l) : w.ownsMap Tryz.prog 9 intElem b l.length (linkD l) := by
 obtain ⟨n, es, clock, hb, F, hs, hD⟩ := h
 refine ⟨es, clock, hb, F, ?_, hD⟩
 have := congrArg Maps.size hD
 rw [linkD_size] at this
 rw [this]
 simp [Maps.size, length_sorted]
theorem NT.made (w : World) : NT (w.alloc (.map #[] 0)) w.heap.size [] := ⟨0, World.ownsMap_made w _ _ _⟩
theorem nameK_of {s : ByteArray} (hs : s.size ≤ maxLen) : keyOf Tryz.prog 9 (.string s) = some (nameK s) := keyOf_string_mk Tryz.underlying9 hs
theorem zero_int (w : World) : (zeroValue 3).run Tryz.prog w = .ok (.int .i64 0) w := by simp [Tryz.zeroValue3]
theorem NT.look {w : World} {b : Nat} {l : List Lnk} (h : NT w b l) (s : ByteArray) (hs : s.size ≤ maxLen) :
  (linkAt l s = none → (Instr.lookup 84 (.map (some b)) (.string s) true).run Tryz.prog w = .ok (.tuple #[.int .i64 0, .bool false]) w) ∧
  (∀ i, linkAt l s = some i → (Instr.lookup 84 (.map (some b)) (.string s) true).run Tryz.prog w = .ok (.tuple #[.int .i64 (l.getD i default).id, .bool true]) w) := by
 obtain ⟨n, h⟩ := h
 obtain ⟨v, ps, hrun, hv⟩ := h.look_ok (string_keyed Tryz.underlying9) Tryz.underlying84 (zero_int w) (zd := .lit (.int .i64 0)) (zp := []) rfl (nameK_of hs)
 rw [linkD_has] at hrun
 constructor
 ·intro e
  rw [linkD_none l s e] at hv
  rw [hrun, e, intElem_inv hv]
  rfl
 ·intro i e
  rw [linkD_at l s i e] at hv
  rw [hrun, e, intElem_inv hv]
  rfl
theorem NT.val {w : World} {b : Nat} {l : List Lnk} (h : NT w b l) (s : ByteArray) (hs : s.size ≤ maxLen) (i : Nat) (hi : linkAt l s = some i) :
  (Instr.lookup 84 (.map (some b)) (.string s) false).run Tryz.prog w = .ok (.int .i64 (l.getD i default).id) w := by
 obtain ⟨n, h⟩ := h
 obtain ⟨v, ps, hrun, hv⟩ := h.lookup (string_keyed Tryz.underlying9) Tryz.underlying84 (zero_int w) (zd := .lit (.int .i64 0)) (zp := []) rfl (nameK_of hs)
 rw [linkD_at l s i hi] at hv
 rw [hrun, intElem_inv hv]
theorem NT.put {w : World} {b : Nat} {l : List Lnk} (h : NT w b l) (s : ByteArray) (id : Int) (hs : s.size ≤ maxLen) (hl : l.length < maxLen) :
  ∃ w', (Instr.mapUpdate 84 (.map (some b)) (.string s) (.int .i64 id)).run Tryz.prog w = .ok () w' ∧ NT w' b (withL l ⟨s, id⟩) ∧ But (fun i => i = b) w w' ∧ w'.heap.size = w.heap.size := by
 obtain ⟨w', hrun, h1, h2⟩ := h.tight.store (string_keyed Tryz.underlying9) Tryz.underlying84 hl (nameK_of hs) (show intElem (.int .i64 id) = some (.lit (.int .i64 id), []) from rfl)
 rw [linkD_put l ⟨s, id⟩] at h1
 refine ⟨w', hrun, ⟨_, h1⟩, But.of_grown h2.grown, ?_⟩
 obtain ⟨_, _, _, _, _, rfl⟩ := h2
 simp [setBlock]
theorem NT.del {w : World} {b : Nat} {l : List Lnk} (h : NT w b l) (s : ByteArray) (hs : s.size ≤ maxLen) (ty : TypeId) :
  ∃ w', (Builtin.delete_ #[84, 9] ty #[.map (some b), .string s]).run Tryz.prog w = .ok (.tuple #[]) w' ∧ NT w' b (without l s) ∧ But (fun i => i = b) w w' ∧ w'.heap.size = w.heap.size := by
 obtain ⟨n, h⟩ := h
 obtain ⟨w', hrun, h1, h2⟩ := h.drop (string_keyed Tryz.underlying9) Tryz.underlying84 (nameK_of hs) ty
 rw [linkD_del l s] at h1
 refine ⟨w', hrun, ⟨_, h1⟩, But.of_grown h2.grown, ?_⟩
 obtain ⟨_, _, _, _, _, rfl⟩ := h2
 simp [setBlock]
def IT (w : World) (b : Nat) (l : List (Int × Nat)) : Prop := ∃ n, w.ownsMap Tryz.prog 3 ptrElem b n (ptrD l)
theorem IT.lt {w : World} {b : Nat} {l : List (Int × Nat)} (h : IT w b l) : b < w.heap.size := let ⟨_, h⟩ := h; h.lt
theorem IT.kept {w w' : World} {b : Nat} {l : List (Int × Nat)} (h : IT w b l) (hb : w'.heap[b]? = w.heap[b]?) : IT w' b l := by
 obtain ⟨n, es, clock, h1, h2⟩ := h
 exact ⟨n, es, clock, hb.trans h1, h2⟩
theorem IT.on {w w' : World} {b B : Nat} {l : List (Int × Nat)} (h : IT w b l) (hb : Below B w w') (hB : b < B) : IT w' b l := h.kept (hb.block b hB)
theorem IT.but {S : Nat → Prop} {w w' : World} {b : Nat} {l : List (Int × Nat)} (h : IT w b l) (hb : But S w w') (hn : ¬ S b) : IT w' b l := h.kept (hb.block b h.lt hn)
theorem IT.tight {w : World} {b : Nat} {l : List (Int × Nat)} (h : IT w b l) : w.ownsMap Tryz.prog 3 ptrElem b l.length (ptrD l) := by
 obtain ⟨n, es, clock, hb, F, hs, hD⟩ := h
 refine ⟨es, clock, hb, F, ?_, hD⟩
 have := congrArg Maps.size hD
 rw [ptrD_size] at this
 rw [this]
 simp [Maps.size, length_sorted]
theorem IT.made (w : World) : IT (w.alloc (.map #[] 0)) w.heap.size [] := ⟨0, World.ownsMap_made w _ _ _⟩
def IntOk (a : Int) : Prop := -9223372036854775808 ≤ a ∧ a ≤ 9223372036854775807
theorem wf_int {a : Int} (h : IntOk a) : (Lit.int .i64 a).wf = true := by
 exact WalkArith.wf_i64 h
theorem intK_of {a : Int} (h : IntOk a) : keyOf Tryz.prog 3 (.int .i64 a) = some (.int .i64 a) := keyOf_int_mk Tryz.underlying3 (wf_int h)
theorem zero_ptr (w : World) : (zeroValue 81).run Tryz.prog w = .ok (.pointer none) w := by simp [Tryz.zeroValue81]
theorem IT.val {w : World} {b : Nat} {l : List (Int × Nat)} (h : IT w b l) (id : Int) (hs : IntOk id) :
  (ptrAt l id = none → (Instr.lookup 82 (.map (some b)) (.int .i64 id) false).run Tryz.prog w = .ok (.pointer none) w) ∧
  (∀ g, ptrAt l id = some g → (Instr.lookup 82 (.map (some b)) (.int .i64 id) false).run Tryz.prog w = .ok (.pointer (some ⟨g, 0, none⟩)) w) := by
 obtain ⟨n, h⟩ := h
 obtain ⟨v, ps, hrun, hv⟩ := h.lookup (int_keyed Tryz.underlying3) Tryz.underlying82 (zero_ptr w) (zd := .nil) (zp := []) rfl (intK_of hs)
 rw [ptrD_at] at hv
 constructor
 ·intro e
  rw [e] at hv
  rw [hrun, ptrElem_inv_nil hv]
 ·intro g e
  rw [e] at hv
  rw [hrun, ptrElem_inv hv]
theorem IT.put {w : World} {b : Nat} {l : List (Int × Nat)} (h : IT w b l) (id : Int) (g : Nat) (hs : IntOk id) (hl : l.length < maxLen) (hlast : ∀ p ∈ l, p.1 < id) :
  ∃ w', (Instr.mapUpdate 82 (.map (some b)) (.int .i64 id) (.pointer (some ⟨g, 0, none⟩))).run Tryz.prog w = .ok () w' ∧ IT w' b (l ++ [(id, g)]) ∧ But (fun i => i = b) w w' ∧ w'.heap.size = w.heap.size := by
 obtain ⟨w', hrun, h1, h2⟩ := h.tight.store (int_keyed Tryz.underlying3) Tryz.underlying82 hl (intK_of hs) (ptrElem_mk g)
 rw [ptrD_put l id g hlast] at h1
 refine ⟨w', hrun, ⟨_, h1⟩, But.of_grown h2.grown, ?_⟩
 obtain ⟨_, _, _, _, _, rfl⟩ := h2
 simp [setBlock]
theorem IT.del {w : World} {b : Nat} {l : List (Int × Nat)} (h : IT w b l) (id : Int) (hs : IntOk id) (ty : TypeId) :
  ∃ w', (Builtin.delete_ #[82, 3] ty #[.map (some b), .int .i64 id]).run Tryz.prog w = .ok (.tuple #[]) w' ∧ IT w' b (ptrDel l id) ∧ But (fun i => i = b) w w' ∧ w'.heap.size = w.heap.size := by
 obtain ⟨n, h⟩ := h
 obtain ⟨w', hrun, h1, h2⟩ := h.drop (int_keyed Tryz.underlying3) Tryz.underlying82 (intK_of hs) ty
 rw [ptrD_del l id] at h1
 refine ⟨w', hrun, ⟨_, h1⟩, But.of_grown h2.grown, ?_⟩
 obtain ⟨_, _, _, _, _, rfl⟩ := h2
 simp [setBlock]
theorem IT.len {w : World} {b : Nat} {l : List (Int × Nat)} (h : IT w b l) (ty : TypeId) : (Builtin.len_ #[82] ty #[.map (some b)]).run Tryz.prog w = .ok (.int .i64 (l.length : Int)) w := by
 obtain ⟨n, h⟩ := h
 have := h.len Tryz.underlying82 ty
 rw [ptrD_size] at this
 exact this
end Go.Proofs.YtgjilgecklhglaaGreat
namespace Go.Proofs.YtgjilgecklhglaaGreat
open Go.ChangeShapes Go.WideShapes Go.ChangeAt Go.RowKit Go.PlainAid
set_option linter.unusedVariables false
theorem find_some {α : Type} [Inhabited α] (p : α → Bool) (l : List α) (k : Nat) (hk : k < l.length) (h : ∀ j, j < k → p (l.getD j default) = false) (hp : p (l.getD k default) = true) : l.findIdx? p = some k := by
 rw [List.findIdx?_eq_some_iff_getElem]
 refine ⟨hk, by rw [getD_at l k hk]; exact hp, fun j hj => ?_⟩
 rw [getD_at l j (by omega), h j hj]
 exact Bool.false_ne_true
theorem find_none {α : Type} [Inhabited α] (p : α → Bool) (l : List α) (h : ∀ j, j < l.length → p (l.getD j default) = false) : l.findIdx? p = none := by
 rw [List.findIdx?_eq_none_iff]
 intro x hx
 obtain ⟨j, hj, rfl⟩ := List.getElem_of_mem hx
 rw [getD_at l j hj]
 exact h j hj
theorem any_yes {α : Type} [Inhabited α] (p : α → Bool) (l : List α) (k : Nat) (hk : k < l.length) (hp : p (l.getD k default) = true) : l.any p = true := List.any_eq_true.2 ⟨_, getD_mem l k hk, hp⟩
theorem any_no {α : Type} [Inhabited α] (p : α → Bool) (l : List α) (h : ∀ j, j < l.length → p (l.getD j default) = false) : l.any p = false := by
 rw [List.any_eq_false]
 intro x hx
 obtain ⟨j, hj, rfl⟩ := List.getElem_of_mem hx
 rw [getD_at l j hj, h j hj]
 exact Bool.false_ne_true
theorem toList_beq (a b : ByteArray) : (a.toList == b.toList) = decide (a = b) := by
 rw [Lib.toList_data, Lib.toList_data]
 by_cases h : a = b
 ·subst h
  simp
 ·rw [decide_eq_false h, beq_eq_false_iff_ne]
  intro e
  exact h (ByteArray.ext (Array.toList_inj.1 e))
theorem less_succ {p : Nat → Prop} {k : Nat} (h : ∀ j, j < k → p j) (hk : p k) : ∀ j, j < k + 1 → p j := fun j hj => by
 rcases Nat.lt_succ_iff_lt_or_eq.1 hj with h' | rfl
 ·exact h j h'
 ·exact hk
def idxV : Option Nat → Int
 | some i => (i : Int)
 | none => -1
set_option maxHeartbeats 400000 in
theorem inB (x lo hi : Int) (w : World) : Calls Tryz.prog 29 #[.int .i64 x, .int .i64 lo, .int .i64 hi] w fun e w' => e = .returned (.bool (decide (lo ≤ x) && decide (x ≤ hi))) ∧ w = w' := by
 by_cases h1 : lo ≤ x
 ·go_enter Tryz.func29, Tryz.ntmps29
  go_wp2
  go_ret
  exact ⟨by simp [h1], rfl⟩
 ·have z : decide (lo ≤ x) = false := decide_eq_false h1
  have z2 : x < lo := by omega
  go_enter Tryz.func29, Tryz.ntmps29
  go_wp2
  go_ret
  exact ⟨rfl, rfl⟩
set_option maxHeartbeats 400000 in
theorem linkedV (l : List Lnk) (v : Value) (id : Int) (w : World) (B : Nat) (hv : Lies w B 2 v (lnkR l)) (hn : l.length ≤ 1048576) :
  Calls Tryz.prog 54 #[v, .int .i64 id] w fun e w' => e = .returned (.bool (linked l id)) ∧ w = w' := by
 obtain ⟨A, cap, rfl, hl⟩ := lnk_look hv
 have HL : Hid (∀ j, j < l.length → ∃ g off, A = some ⟨g, off, none⟩ ∧ g < B ∧ _) := hl
 clear hl hv
 have q1 : (l.length : Int) ≤ 1048576 := by omega
 generalize hN : l.length = n at *
 go_enter Tryz.func54, Tryz.ntmps54
 go_wp2
 go_loop [5] (fun v5 => ∃ k : Nat, k ≤ n ∧ v5 = .int .i64 (k : Int) ∧ ∀ j, j < k → ¬ (l.getD j default).id = id) (fun i => n - (intOf i).toNat)
 case atStart => exact ⟨0, by omega, rfl, fun j hj => by omega⟩
 case round =>
  obtain ⟨k, hk, rfl, hno⟩ := hrel
  have HN : Hid (∀ j, j < k → ¬ (l.getD j default).id = id) := hno
  clear hno
  by_cases hlt : k < n
  ·have q4 : (k : Int) < (n : Int) := by omega
   obtain ⟨g, off, rfl, hg, hc0, hc1⟩ := HL.out k hlt
   by_cases he : (l.getD k default).id = id
   ·have HY : Hid (linked l id = true) := any_yes _ _ k (by omega) (decide_eq_true he)
    rw [he] at hc1
    go_wp2
    go_ret
    exact ⟨by rw [HY.out]; rfl, rfl⟩
   ·have z : ((l.getD k default).id == id) = false := by simpa using he
    have HE : Hid (∀ j, j < k + 1 → ¬ (l.getD j default).id = id) := less_succ HN.out he
    clear he
    generalize (l.getD k default).id = x at *
    go_wp2
    go_round
    case rel => exact ⟨k + 1, by omega, by go_num, HE.out⟩
    case measure => simp [intOf]; omega
  ·obtain rfl : k = n := by omega
   have HY : Hid (linked l id = false) := any_no _ _ fun j hj => decide_eq_false (HN.out j (by omega))
   go_wp2
   go_ret
   exact ⟨by rw [HY.out]; rfl, rfl⟩
set_option maxHeartbeats 400000 in
theorem madeV (l : List Mov) (v : Value) (id : Int) (w : World) (B : Nat) (hv : Lies w B 4 v (movR l)) (hn : l.length ≤ 1048576) :
  Calls Tryz.prog 55 #[v, .int .i64 id] w fun e w' => e = .returned (.bool (made l id)) ∧ w = w' := by
 obtain ⟨A, cap, rfl, hl⟩ := mov_look hv
 have HL : Hid (∀ j, j < l.length → ∃ g off, A = some ⟨g, off, none⟩ ∧ g < B ∧ _) := hl
 clear hl hv
 have q1 : (l.length : Int) ≤ 1048576 := by omega
 generalize hN : l.length = n at *
 go_enter Tryz.func55, Tryz.ntmps55
 go_wp2
 go_loop [5] (fun v5 => ∃ k : Nat, k ≤ n ∧ v5 = .int .i64 (k : Int) ∧ ∀ j, j < k → ¬ ((l.getD j default).kind = 1 ∧ (l.getD j default).id = id)) (fun i => n - (intOf i).toNat)
 case atStart => exact ⟨0, by omega, rfl, fun j hj => by omega⟩
 case round =>
  obtain ⟨k, hk, rfl, hno⟩ := hrel
  have HN : Hid (∀ j, j < k → ¬ ((l.getD j default).kind = 1 ∧ (l.getD j default).id = id)) := hno
  clear hno
  by_cases hlt : k < n
  ·have q4 : (k : Int) < (n : Int) := by omega
   obtain ⟨g, off, rfl, hg, hc0, hc1, hc2, hc3⟩ := HL.out k hlt
   by_cases h1 : (l.getD k default).kind = 1
   ·by_cases he : (l.getD k default).id = id
    ·have HY : Hid (made l id = true) := any_yes _ _ k (by omega) (by rw [decide_eq_true h1, decide_eq_true he]; rfl)
     rw [he] at hc3
     rw [h1] at hc0
     go_wp2
     go_ret
     exact ⟨by rw [HY.out]; rfl, rfl⟩
    ·have z : ((l.getD k default).id == id) = false := by simpa using he
     have HE : Hid (∀ j, j < k + 1 → ¬ ((l.getD j default).kind = 1 ∧ (l.getD j default).id = id)) := less_succ HN.out fun h => he h.2
     rw [h1] at hc0
     clear he h1
     generalize (l.getD k default).id = x at *
     go_wp2
     go_round
     case rel => exact ⟨k + 1, by omega, by go_num, HE.out⟩
     case measure => simp [intOf]; omega
   ·have z : ((l.getD k default).kind == 1) = false := by simpa using h1
    have HE : Hid (∀ j, j < k + 1 → ¬ ((l.getD j default).kind = 1 ∧ (l.getD j default).id = id)) := less_succ HN.out fun h => h1 h.1
    clear h1
    generalize (l.getD k default).kind = y at *
    generalize (l.getD k default).id = x at *
    go_wp2
    go_round
    case rel => exact ⟨k + 1, by omega, by go_num, HE.out⟩
    case measure => simp [intOf]; omega
  ·obtain rfl : k = n := by omega
   have HY : Hid (made l id = false) := any_no _ _ fun j hj => by
    have := HN.out j (by omega)
    by_cases h1 : (l.getD j default).kind = 1
    ·rw [decide_eq_true h1, decide_eq_false (fun h => this ⟨h1, h⟩)]; rfl
    ·rw [decide_eq_false h1]; rfl
   go_wp2
   go_ret
   exact ⟨by rw [HY.out]; rfl, rfl⟩
set_option maxHeartbeats 400000 in
theorem atV4 (l : List Lnk) (v : Value) (name : ByteArray) (w : World) (B : Nat) (hv : Lies w B 2 v (lnkR l)) (hn : l.length ≤ 1048576) :
  Calls Tryz.prog 62 #[v, .string name] w fun e w' => e = .returned (.int .i64 (idxV (linkAt l name))) ∧ w = w' := by
 obtain ⟨A, cap, rfl, hl⟩ := lnk_look hv
 have HL : Hid (∀ j, j < l.length → ∃ g off, A = some ⟨g, off, none⟩ ∧ g < B ∧ _) := hl
 clear hl hv
 have q1 : (l.length : Int) ≤ 1048576 := by omega
 generalize hN : l.length = n at *
 go_enter Tryz.func62, Tryz.ntmps62
 go_wp2
 go_loop [5] (fun v5 => ∃ k : Nat, k ≤ n ∧ v5 = .int .i64 (k : Int) ∧ ∀ j, j < k → ¬ (l.getD j default).name = name) (fun i => n - (intOf i).toNat)
 case atStart => exact ⟨0, by omega, rfl, fun j hj => by omega⟩
 case round =>
  obtain ⟨k, hk, rfl, hno⟩ := hrel
  have HN : Hid (∀ j, j < k → ¬ (l.getD j default).name = name) := hno
  clear hno
  by_cases hlt : k < n
  ·have q4 : (k : Int) < (n : Int) := by omega
   obtain ⟨g, off, rfl, hg, hc0, hc1⟩ := HL.out k hlt
   have hb := toList_beq (l.getD k default).name name
   by_cases he : (l.getD k default).name = name
   ·have HY : Hid (linkAt l name = some k) := find_some _ _ k (by omega) (fun j hj => decide_eq_false (HN.out j hj)) (decide_eq_true he)
    rw [decide_eq_true he] at hb
    clear he
    generalize (l.getD k default).name = x at *
    go_wp2
    go_ret
    exact ⟨by rw [HY.out]; rfl, rfl⟩
   ·rw [decide_eq_false he] at hb
    have HE : Hid (∀ j, j < k + 1 → ¬ (l.getD j default).name = name) := less_succ HN.out he
    clear he
    generalize (l.getD k default).name = x at *
    go_wp2
    go_round
    case rel => exact ⟨k + 1, by omega, by go_num, HE.out⟩
    case measure => simp [intOf]; omega
  ·obtain rfl : k = n := by omega
   have HY : Hid (linkAt l name = none) := find_none _ _ fun j hj => decide_eq_false (HN.out j (by omega))
   go_wp2
   go_ret
   exact ⟨by rw [HY.out]; rfl, rfl⟩
set_option maxHeartbeats 1000000 in
theorem inodeV (d : Dsk) (v : Value) (id : Int) (w : World) (B : Nat) (hv : DiskV w B v d) (hn : d.nods.length ≤ 1048576) (hB : B ≤ w.heap.size) :
  Calls Tryz.prog 56 #[v, .int .i64 id] w fun e w' => e = .returned (.int .i64 (idxV (nodAt d.nods id))) ∧ Below w.heap.size w w' := by
 obtain ⟨v1, v2, v3, rfl, h1, h2, h3⟩ := hv
 obtain ⟨A, cap, rfl, hl⟩ := nod_look h1
 have HL : Hid (∀ j, j < d.nods.length → ∃ g off, A = some ⟨g, off, none⟩ ∧ g < B ∧ _) := hl
 have HB : Hid (B ≤ w.heap.size) := hB
 clear hl h1 h2 h3 hB
 have q1 : (d.nods.length : Int) ≤ 1048576 := by omega
 generalize hll : d.nods = l at *
 generalize hN : l.length = n at *
 go_enter Tryz.func56, Tryz.ntmps56
 go_wp2
 have hb0 : Below w.heap.size w (w.alloc (.cells #[.int .i64 d.room, .int .i64 d.next, .slice A n cap, v2, v3] 28)) := (Below.refl _ _).alloc (Nat.le_refl _) _
 have e0 := (Blk.new w #[.int .i64 d.room, .int .i64 d.next, .slice A n cap, v2, v3] 28).cell 2 _ rfl
 generalize w.alloc (.cells #[.int .i64 d.room, .int .i64 d.next, .slice A n cap, v2, v3] 28) = W at *
 have B0 : Hid (Below w.heap.size w W) := hb0
 clear hb0
 have e1 : W.cell? ⟨w.heap.size, 2, none⟩ = some (.slice A n cap) := e0
 clear e0
 go_loop [5] (fun v5 => ∃ k : Nat, k ≤ n ∧ v5 = .int .i64 (k : Int) ∧ ∀ j, j < k → ¬ (l.getD j default).id = id) (fun i => n - (intOf i).toNat)
 case atStart => exact ⟨0, by omega, rfl, fun j hj => by omega⟩
 case round =>
  obtain ⟨k, hk, rfl, hno⟩ := hrel
  have HN : Hid (∀ j, j < k → ¬ (l.getD j default).id = id) := hno
  clear hno
  by_cases hlt : k < n
  ·have q4 : (k : Int) < (n : Int) := by omega
   obtain ⟨g, off, rfl, hg, hc0, hc1, hc2⟩ := HL.out k hlt
   have hgw : g < w.heap.size := Nat.lt_of_lt_of_le hg HB.out
   rw [← B0.out.cell (p := ⟨_, _, none⟩) hgw] at hc0
   clear hc1 hc2
   by_cases he : (l.getD k default).id = id
   ·have HY : Hid (nodAt l id = some k) := find_some _ _ k (by omega) (fun j hj => decide_eq_false (HN.out j hj)) (decide_eq_true he)
    rw [he] at hc0
    go_wp2
    go_ret
    exact ⟨by rw [HY.out]; rfl, B0.out⟩
   ·have z : ((l.getD k default).id == id) = false := by simpa using he
    have HE : Hid (∀ j, j < k + 1 → ¬ (l.getD j default).id = id) := less_succ HN.out he
    clear he
    generalize (l.getD k default).id = x at *
    go_wp2
    go_round
    case rel => exact ⟨k + 1, by omega, by go_num, HE.out⟩
    case measure => simp [intOf]; omega
  ·obtain rfl : k = n := by omega
   have HY : Hid (nodAt l id = none) := find_none _ _ fun j hj => decide_eq_false (HN.out j (by omega))
   go_wp2
   go_ret
   exact ⟨by rw [HY.out]; rfl, B0.out⟩
end Go.Proofs.YtgjilgecklhglaaGreat
namespace Go.Proofs.YtgjilgecklhglaaGreat
open Go.ChangeShapes Go.WideShapes Go.ChangeAt Go.RowKit Go.PlainAid
set_option linter.unusedVariables false
theorem name_yes (s : ByteArray) (h1 : 1 ≤ s.size) (h2 : s.size ≤ 12) (h : ∀ j, j < s.size → nameB (bn s j) = true) : nameOk s = true := by
 unfold nameOk
 rw [decide_eq_true h1, decide_eq_true h2]
 simp only [Bool.true_and, List.all_eq_true, List.mem_range]
 exact h
theorem name_no (s : ByteArray) (k : Nat) (hk : k < s.size) (h : nameB (bn s k) = false) : nameOk s = false := by
 unfold nameOk
 have : ((List.range s.size).all fun j => nameB (bn s j)) = false := by
  rw [List.all_eq_false]
  exact ⟨k, List.mem_range.2 hk, by rw [h]; exact Bool.false_ne_true⟩
 rw [this, Bool.and_false]
theorem name_out (s : ByteArray) (h : s.size < 1 ∨ 12 < s.size) : nameOk s = false := by
 unfold nameOk
 rcases h with h | h
 ·rw [decide_eq_false (show ¬ 1 ≤ s.size by omega)]; rfl
 ·rw [decide_eq_false (show ¬ s.size ≤ 12 by omega), Bool.and_false]; rfl
set_option maxHeartbeats 1000000 in
theorem nameV (s : ByteArray) (w : World) (hs : s.size ≤ 9223372036854775807) :
  Calls Tryz.prog 30 #[.string s] w fun e w' => e = .returned (.bool (nameOk s)) ∧ w = w' := by
 have hbt := get_bn s
 have c1 := inB (s.size : Int) 1 12 w
 by_cases h : s.size < 1 ∨ 12 < s.size
 ·have HY : Hid (nameOk s = false) := name_out s h
  have hz : (decide ((1 : Int) ≤ (s.size : Int)) && decide ((s.size : Int) ≤ 12)) = false := by
   rcases h with h | h
   ·rw [decide_eq_false (by omega)]; rfl
   ·rw [decide_eq_false (show ¬ (s.size : Int) ≤ 12 by omega), Bool.and_false]
  rw [hz] at c1
  clear h hz
  go_enter Tryz.func30, Tryz.ntmps30
  go_wp2_with fail
  refine c1.mono ?_
  rintro e w1 ⟨rfl, rfl⟩
  go_wp2_with fail
  go_ret
  exact ⟨by rw [HY.out]; rfl, rfl⟩
 ·have hz : (decide ((1 : Int) ≤ (s.size : Int)) && decide ((s.size : Int) ≤ 12)) = true := by rw [decide_eq_true (by omega), decide_eq_true (by omega)]; rfl
  rw [hz] at c1
  have q1 : (s.size : Int) ≤ 12 := by omega
  have HS1 : Hid (1 ≤ s.size) := by unfold Hid; omega
  have HS2 : Hid (s.size ≤ 12) := by unfold Hid; omega
  clear h hz hs
  go_enter Tryz.func30, Tryz.ntmps30
  go_wp2_with fail
  refine c1.mono ?_
  rintro e w1 ⟨rfl, rfl⟩
  go_wp2_with fail
  go_loop [3] (fun v3 => ∃ k : Nat, k ≤ s.size ∧ v3 = .int .i64 (k : Int) ∧ ∀ j, j < k → nameB (bn s j) = true) (fun i => s.size - (intOf i).toNat)
  case atStart => exact ⟨0, by omega, rfl, fun j hj => by omega⟩
  case round =>
   obtain ⟨k, hk, rfl, hno⟩ := hrel
   have HN : Hid (∀ j, j < k → nameB (bn s j) = true) := hno
   clear hno
   by_cases hlt : k < s.size
   ·have q4 : (k : Int) < (s.size : Int) := by omega
    have hb := bn_lt s k
    have hbk := hbt k hlt
    clear hbt
    by_cases hok : nameB (bn s k) = true
    ·have HE : Hid (∀ j, j < k + 1 → nameB (bn s j) = true) := less_succ HN.out hok
     generalize bn s k = b at *
     have hc : (97 ≤ b ∧ b ≤ 122) ∨ (48 ≤ b ∧ b ≤ 57) ∨ b = 46 := by
      unfold nameB at hok
      simp at hok
      omega
     clear hok
     rcases hc with hc | hc | hc
     ·have z1 : decide ((97 : Int) ≤ (b : Int)) = true := decide_eq_true (by omega)
      have z2 : decide ((b : Int) ≤ 122) = true := decide_eq_true (by omega)
      have y1 : (97 : Int) ≤ (b : Int) := by omega
      have y2 : (b : Int) ≤ 122 := by omega
      clear hc
      go_wp2_with fail
      go_round
      case rel => exact ⟨k + 1, by omega, by go_num, HE.out⟩
      case measure => simp [intOf]; omega
     ·have z1 : decide ((97 : Int) ≤ (b : Int)) = false := decide_eq_false (by omega)
      have z3 : decide ((48 : Int) ≤ (b : Int)) = true := decide_eq_true (by omega)
      have z4 : decide ((b : Int) ≤ 57) = true := decide_eq_true (by omega)
      have y1 : (b : Int) < 97 := by omega
      have y2 : (48 : Int) ≤ (b : Int) := by omega
      have y3 : (b : Int) ≤ 57 := by omega
      clear hc
      go_wp2_with fail
      go_round
      case rel => exact ⟨k + 1, by omega, by go_num, HE.out⟩
      case measure => simp [intOf]; omega
     ·subst hc
      go_wp2_with fail
      go_round
      case rel => exact ⟨k + 1, by omega, by go_num, HE.out⟩
      case measure => simp [intOf]; omega
    ·have hok2 : nameB (bn s k) = false := by simpa using hok
     have HY : Hid (nameOk s = false) := name_no s k hlt hok2
     generalize bn s k = b at *
     have hc : 122 < b ∨ (b < 97 ∧ 57 < b) ∨ (b < 48 ∧ b ≠ 46) := by
      unfold nameB at hok2
      simp at hok2
      omega
     clear hok hok2
     rcases hc with hc | hc | hc
     ·have z1 : decide ((97 : Int) ≤ (b : Int)) = true := decide_eq_true (by omega)
      have z2 : decide ((b : Int) ≤ 122) = false := decide_eq_false (by omega)
      have z3 : decide ((48 : Int) ≤ (b : Int)) = true := decide_eq_true (by omega)
      have z4 : decide ((b : Int) ≤ 57) = false := decide_eq_false (by omega)
      have z5 : ((b : Int) == 46) = false := by simp only [beq_eq_false_iff_ne, ne_eq]; omega
      have y1 : (122 : Int) < (b : Int) := by omega
      clear hc
      go_wp2_with fail
      go_ret
      exact ⟨by rw [HY.out]; rfl, rfl⟩
     ·have z1 : decide ((97 : Int) ≤ (b : Int)) = false := decide_eq_false (by omega)
      have z3 : decide ((48 : Int) ≤ (b : Int)) = true := decide_eq_true (by omega)
      have z4 : decide ((b : Int) ≤ 57) = false := decide_eq_false (by omega)
      have z5 : ((b : Int) == 46) = false := by simp only [beq_eq_false_iff_ne, ne_eq]; omega
      have y1 : (b : Int) < 97 := by omega
      have y2 : (57 : Int) < (b : Int) := by omega
      clear hc
      go_wp2_with fail
      go_ret
      exact ⟨by rw [HY.out]; rfl, rfl⟩
     ·have z1 : decide ((97 : Int) ≤ (b : Int)) = false := decide_eq_false (by omega)
      have z3 : decide ((48 : Int) ≤ (b : Int)) = false := decide_eq_false (by omega)
      have z5 : ((b : Int) == 46) = false := by simp only [beq_eq_false_iff_ne, ne_eq]; omega
      have y1 : (b : Int) < 48 := by omega
      have y2 : ¬ (b : Int) = 46 := by omega
      clear hc
      go_wp2_with fail
      go_ret
      exact ⟨by rw [HY.out]; rfl, rfl⟩
   ·obtain rfl : k = s.size := by omega
    have HY : Hid (nameOk s = true) := name_yes s HS1.out HS2.out HN.out
    go_wp2_with fail
    go_ret
    exact ⟨by rw [HY.out]; rfl, rfl⟩
theorem bytesOf_snoc (l : List Nod) (k : Nat) (h : k < l.length) : bytesOf (l.take (k + 1)) = bytesOf (l.take k) + (l.getD k default).data.size := by
 rw [← getD_at l k h]
 induction l generalizing k with
 | nil => simp at h
 | cons x r ih =>
  cases k with
  | zero => simp [bytesOf]
  | succ k => simp only [List.take_succ_cons, bytesOf, List.getElem_cons_succ]; rw [ih k (by simpa using h)]; omega
theorem bytesOf_le (l : List Nod) (k : Nat) : bytesOf (l.take k) ≤ bytesOf l := by
 induction l generalizing k with
 | nil => simp [bytesOf]
 | cons x r ih =>
  cases k with
  | zero => simp [bytesOf]
  | succ k => simp only [List.take_succ_cons, bytesOf]; have := ih k; omega
set_option maxHeartbeats 1000000 in
theorem bytesV (d : Dsk) (v : Value) (w : World) (B : Nat) (hv : DiskV w B v d) (hn : d.nods.length ≤ 1048576) (hs : bytesOf d.nods ≤ 4194304) (hB : B ≤ w.heap.size) :
  Calls Tryz.prog 53 #[v] w fun e w' => e = .returned (.int .i64 (bytesOf d.nods : Int)) ∧ Below w.heap.size w w' := by
 obtain ⟨v1, v2, v3, rfl, h1, h2, h3⟩ := hv
 obtain ⟨A, cap, rfl, hl⟩ := nod_look h1
 have HL : Hid (∀ j, j < d.nods.length → ∃ g off, A = some ⟨g, off, none⟩ ∧ g < B ∧ _) := hl
 have HB : Hid (B ≤ w.heap.size) := hB
 have HS : Hid (bytesOf d.nods ≤ 4194304) := hs
 clear hl h1 h2 h3 hB hs
 have q1 : (d.nods.length : Int) ≤ 1048576 := by omega
 generalize hll : d.nods = l at *
 generalize hN : l.length = n at *
 go_enter Tryz.func53, Tryz.ntmps53
 go_wp2
 have hb0 : Below w.heap.size w (w.alloc (.cells #[.int .i64 d.room, .int .i64 d.next, .slice A n cap, v2, v3] 28)) := (Below.refl _ _).alloc (Nat.le_refl _) _
 have e0 := (Blk.new w #[.int .i64 d.room, .int .i64 d.next, .slice A n cap, v2, v3] 28).cell 2 _ rfl
 generalize w.alloc (.cells #[.int .i64 d.room, .int .i64 d.next, .slice A n cap, v2, v3] 28) = W at *
 have B0 : Hid (Below w.heap.size w W) := hb0
 clear hb0
 have e1 : W.cell? ⟨w.heap.size, 2, none⟩ = some (.slice A n cap) := e0
 clear e0
 go_loop [3, 4] (fun v3 v4 => ∃ k : Nat, k ≤ n ∧ v4 = .int .i64 (k : Int) ∧ v3 = .int .i64 (bytesOf (l.take k) : Int)) (fun _ i => n - (intOf i).toNat)
 case atStart => exact ⟨0, by omega, rfl, rfl⟩
 case round =>
  obtain ⟨k, hk, rfl, rfl⟩ := hrel
  have q5 : (bytesOf (l.take k) : Int) ≤ 4194304 := by have := bytesOf_le l k; have := HS.out; omega
  by_cases hlt : k < n
  ·have q4 : (k : Int) < (n : Int) := by omega
   obtain ⟨g, off, rfl, hg, hc0, hc1, hc2⟩ := HL.out k hlt
   have hgw : g < w.heap.size := Nat.lt_of_lt_of_le hg HB.out
   rw [← B0.out.cell (p := ⟨_, _, none⟩) hgw] at hc1
   have EB := bytesOf_snoc l k (by omega)
   have q6 : ((l.getD k default).data.size : Int) ≤ 4194304 := by have := bytesOf_le l (k + 1); have := HS.out; omega
   have EI : Hid ((bytesOf (l.take (k + 1)) : Int) = (bytesOf (l.take k) : Int) + ((l.getD k default).data.size : Int)) := by unfold Hid; rw [EB]; omega
   clear hc0 hc2 EB
   generalize (l.getD k default).data = x at *
   generalize bytesOf (l.take k) = y at *
   go_wp2
   go_round
   case rel => exact ⟨k + 1, by omega, by go_num, by rw [EI.out]⟩
   case measure => simp [intOf]; omega
  ·obtain rfl : k = n := by omega
   go_wp2
   go_ret
   exact ⟨by rw [← hN, List.take_length]; rfl, B0.out⟩
end Go.Proofs.YtgjilgecklhglaaGreat
