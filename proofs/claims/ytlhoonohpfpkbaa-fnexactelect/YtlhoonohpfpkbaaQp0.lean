/- Aid WkAid WkRow WkBlk WkSz NmAid CoVal WkArg CoArg WkPut CoOwn CoRes -/
import Derived.WalkKit
import Derived.ProofKit
import Derived.Laws.IdiomStrings
import Derived.Laws.BytesString
import Derived.PlainAid
import Derived.Lib.BufferRead
import Derived.Laws.OwnMore
import Derived.Below
import Derived.OwnWalk
import Derived.Lib.QuoteBits
import Derived.Lib.Bytealg
import Derived.WalkSmall
import Derived.Test.YtlhoonohpfpkbaaRows
import Derived.OpenShut
import Derived.WalkLawsBesides
import Derived.Outline
import Derived.BigQuiet
import Derived.Deep.QuietTactic
import Derived.Lib.OwnKind
import Derived.Shelf.Strings.BuilderK
import Derived.Deep.Slices
import Derived.ChangeArms
import Derived.ChangeSlices
import Derived.Handy
import Derived.Deep.Cut
namespace Go.Proofs.Ytlhoonohpfpkbaa
open Go.RowKit Go.PlainAid
def byt (n : Nat) : UInt8 := UInt8.ofNat n
theorem byt_toNat (n : Nat) : (byt n).toNat = n % 256 := by simp [byt]
def txt (l : List UInt8) : ByteArray := ⟨l.toArray⟩
theorem txt_size (l : List UInt8) : (txt l).size = l.length := by simp [txt, ByteArray.size]
theorem txt_cat (a b : List UInt8) : txt a ++ txt b = txt (a ++ b) := ByteArray.mk_append_mk a b
def low (n : Nat) : Nat → List UInt8
 | 0 => []
 | k + 1 => byt (n / 256 ^ k) :: low n k
theorem run_one_byte {P : Program} (w : World) (src dst e : TypeId) (hs : P.underlying src = some (.slice e)) (he : P.underlying e = some (.int .u8)) (hd : P.underlying dst = some .string) (x : Nat) (cap : Nat) :
  (convert src dst (.slice (some ⟨w.heap.size, 0, none⟩) 1 cap)).run P (w.alloc (.cells #[.int .u8 ((x % 256 : Nat) : Int)] e)) = .ok (.string (txt [byt x])) (w.alloc (.cells #[.int .u8 ((x % 256 : Nat) : Int)] e)) := by
 have h := run_convert_bytes_back (P := P) (w.alloc (.cells #[.int .u8 ((x % 256 : Nat) : Int)] e)) src dst e ⟨w.heap.size, 0, none⟩ cap [byt x] hs he hd (by
  intro j hj
  match j, hj with
  | 0, _ => simp [Addr.add, byt_toNat])
 simpa [txt] using h
def byteCells (l : List UInt8) : Array Value := (l.map fun b => Value.int .u8 (b.toNat : Int)).toArray
def bn (s : ByteArray) (k : Nat) : Nat := (bt s k).toNat
def Buf (w : World) (base : Nat) (v : Value) (l : List UInt8) : Prop := w.ownsRow base 5 1 v l.length (byteCells l).toList
theorem Buf.alloc {w : World} {base : Nat} {v : Value} {l : List UInt8} (h : Buf w base v l) (o : Obj) : Buf (w.alloc o) base v l := World.ownsRow.alloc h o
theorem Buf.made (w : World) (base cap : Nat) (cur : Array Value) (hb : base ≤ w.heap.size) (hm : cap ≤ maxLen) (hs : cur.size = cap) :
  Buf (w.alloc (.cells cur 5)) base (.slice (some ⟨w.heap.size, 0, none⟩) 0 cap) [] := by
 unfold Buf
 have := World.ownsRow_made (base := base) (e := 5) (size := 1) w cur cap hb hm (by omega)
 simpa [byteCells] using this
theorem Buf.string {P : Program} {w : World} {base : Nat} {v : Value} {l : List UInt8} (h : Buf w base v l) (src dst : TypeId) (hs : P.underlying src = some (.slice 5)) (he : P.underlying 5 = some (.int .u8)) (hd : P.underlying dst = some .string) :
  (convert src dst v).run P w = .ok (.string (txt l)) w := by
 obtain ⟨hl, ⟨rfl, h0⟩ | ⟨g, cap, cur, rfl, hb, hh, hn, hm, hz, ht⟩⟩ := h
 ·have : l = [] := List.eq_nil_of_length_eq_zero h0
  subst this
  exact Lib.run_convert_nil_bytes w src dst 5 0 hs he hd
 ·refine run_convert_bytes_back (P := P) w src dst 5 ⟨g, 0, none⟩ cap l hs he hd ?_
  intro j hj
  have hown : w.ownsRow base 5 1 (.slice (some ⟨g, 0, none⟩) l.length cap) l.length (byteCells l).toList := ⟨hl, .inr ⟨g, cap, cur, rfl, hb, hh, hn, hm, hz, ht⟩⟩
  have e : (⟨g, 0, none⟩ : Addr).add j = ⟨g, j, none⟩ := by cases j <;> simp [Addr.add]
  rw [e, World.ownsRow.cellAt hown j (by omega)]
  simp [byteCells, hj]
def digits : ByteArray := ⟨#[48, 49, 50, 51, 52, 53, 54, 55, 56, 57, 97, 98, 99, 100, 101, 102]⟩
def vvS (s : ByteArray) : Nat → Nat → Nat
 | _, 0 => 0
 | i, d + 1 => bn s i % 128 + 128 * vvS s (i + 1) d
theorem vvS_snoc (s : ByteArray) (d : Nat) : ∀ i, vvS s i (d + 1) = vvS s i d + bn s (i + d) % 128 * 128 ^ d := by
 induction d with
 | zero => intro i; simp [vvS]
 | succ d ih =>
  intro i
  rw [vvS, ih (i + 1), vvS]
  rw [show i + 1 + d = i + (d + 1) by omega, Nat.pow_succ]
  have e : 128 * (bn s (i + (d + 1)) % 128 * 128 ^ d) = bn s (i + (d + 1)) % 128 * (128 ^ d * 128) := by rw [Nat.mul_comm 128, Nat.mul_assoc]
  rw [Nat.mul_add, e]
  omega
def canonS (s : ByteArray) : Nat → Nat → Prop
 | _, 0 => False
 | i, 1 => bn s i < 128
 | i, d + 2 => 128 ≤ bn s i ∧ 0 < vvS s (i + 1) (d + 1) ∧ canonS s (i + 1) (d + 1)
theorem vvS_pos (s : ByteArray) (d : Nat) (i : Nat) (h : bn s (i + d) % 128 ≠ 0) : 0 < vvS s i (d + 1) := by
 rw [vvS_snoc]
 have : 0 < bn s (i + d) % 128 * 128 ^ d := Nat.mul_pos (by omega) (Nat.pow_pos (by omega))
 omega
theorem canonS_char (s : ByteArray) (d : Nat) : ∀ i, canonS s i (d + 1) ↔ (∀ j, j < d → 128 ≤ bn s (i + j)) ∧ bn s (i + d) < 128 ∧ (d = 0 ∨ bn s (i + d) ≠ 0) := by
 induction d with
 | zero => intro i; simp [canonS]
 | succ d ih =>
  intro i
  have ec : canonS s i (d + 2) = (128 ≤ bn s i ∧ 0 < vvS s (i + 1) (d + 1) ∧ canonS s (i + 1) (d + 1)) := rfl
  show canonS s i (d + 2) ↔ _
  rw [ec, ih (i + 1)]
  rw [show i + 1 + d = i + (d + 1) by omega]
  constructor
  ·rintro ⟨h1, h2, h3, h4, h5⟩
   refine ⟨?_, h4, .inr ?_⟩
   ·intro j hj
    cases j with
    | zero => exact h1
    | succ j => have := h3 j (by omega); rwa [show i + 1 + j = i + (j + 1) by omega] at this
   ·rcases h5 with rfl | h5
    ·simp [vvS] at h2
     intro h
     simp at h
     rw [h] at h2
     simp at h2
    ·exact h5
  ·rintro ⟨h1, h2, h3⟩
   have h4 : bn s (i + (d + 1)) ≠ 0 := by
    rcases h3 with h3 | h3
    ·omega
    ·exact h3
   refine ⟨h1 0 (by omega), ?_, ?_, h2, .inr h4⟩
   ·exact vvS_pos s d (i + 1) (by rw [show i + 1 + d = i + (d + 1) by omega]; omega)
   ·intro j hj
    have := h1 (j + 1) (by omega)
    rwa [show i + (j + 1) = i + 1 + j by omega] at this
def FindV (s : ByteArray) (k : Nat) : Prop := 1 ≤ k ∧ k ≤ 7 ∧ k ≤ s.size ∧ canonS s 0 k
theorem FindV.one {s : ByteArray} {k k' : Nat} (h : FindV s k) (h' : FindV s k') : k = k' := by
 obtain ⟨a1, a2, a3, a4⟩ := h
 obtain ⟨b1, b2, b3, b4⟩ := h'
 obtain ⟨d, rfl⟩ : ∃ d, k = d + 1 := ⟨k - 1, by omega⟩
 obtain ⟨d', rfl⟩ : ∃ d', k' = d' + 1 := ⟨k' - 1, by omega⟩
 obtain ⟨c1, c2, _⟩ := (canonS_char s d 0).1 a4
 obtain ⟨e1, e2, _⟩ := (canonS_char s d' 0).1 b4
 rcases Nat.lt_trichotomy d d' with h | h | h
 ·have := e1 d h; omega
 ·omega
 ·have := c1 d' h; omega
end Go.Proofs.Ytlhoonohpfpkbaa
namespace Go.Proofs.Ytlhoonohpfpkbaa
open Go.RowKit Go.PlainAid
structure Ent where
 term : Int
 data : ByteArray
structure Rcd where
 kind : Int
 term : Int
 index : Int
 vote : Int
 data : ByteArray
structure Wl where
 term : Int
 vote : Int
 base : Int
 bterm : Int
 ents : List Ent
instance : Inhabited Ent := ⟨⟨0, ByteArray.empty⟩⟩
instance : Inhabited Rcd := ⟨⟨0, 0, 0, 0, ByteArray.empty⟩⟩
def inIt (x lo hi : Int) : Bool := decide (lo ≤ x) && decide (x ≤ hi)
def based (index term : Int) : Bool := if index = 0 then decide (term = 0) else inIt index 1 100000 && inIt term 1 100000
def recOk (r : Rcd) : Bool :=
 if r.kind = 1 then inIt r.term 0 100000 && inIt r.vote (-1) 4 && decide (r.index = 0) && decide (r.data = ByteArray.empty)
 else if r.kind = 2 then inIt r.term 1 100000 && inIt r.index 1 100000 && decide (r.vote = 0) && decide (r.data.size ≤ 900)
 else if r.kind = 3 then decide (r.term = 0) && inIt r.index 1 100000 && decide (r.vote = 0) && decide (r.data = ByteArray.empty)
 else if r.kind = 4 then based r.index r.term && decide (r.vote = 0) && decide (r.data = ByteArray.empty)
 else false
def entsOk (top : Int) : Int → List Ent → Bool
 | _, [] => true
 | last, e :: r => decide (1 ≤ e.term) && decide (last ≤ e.term) && decide (e.term ≤ top) && decide (e.data.size ≤ 900) && entsOk top e.term r
def walOk (w : Wl) : Bool :=
 inIt w.term 0 100000 && inIt w.vote (-1) 4 && based w.base w.bterm && decide (w.bterm ≤ w.term) && decide (w.ents.length ≤ 60) && decide (w.base + w.ents.length ≤ 100000) && entsOk w.term w.bterm w.ents
end Go.Proofs.Ytlhoonohpfpkbaa
namespace Go.Proofs.Ytlhoonohpfpkbaa
open Go.RowKit Go.PlainAid
def Lies (w : World) (B sz : Nat) (v : Value) (rows : List (List Value)) : Prop :=
 ∃ A cap, v = .slice A rows.length cap ∧ ((A = none → cap = 0) ∧ rows.length ≤ cap) ∧ (∀ r ∈ rows, r.length = sz) ∧ (rows.length = 0 ∨ ∃ g off, A = some ⟨g, off, none⟩ ∧ g < B ∧ ∀ k x, rows.flatten[k]? = some x → w.cell? ⟨g, off + k, none⟩ = some x)
theorem Lies.on {w w' : World} {B sz : Nat} {v : Value} {rows : List (List Value)} (h : Lies w B sz v rows) (hb : Below B w w') : Lies w' B sz v rows := by
 obtain ⟨A, cap, e, hz, hs, h⟩ := h
 refine ⟨A, cap, e, hz, hs, h.imp id ?_⟩
 rintro ⟨g, off, rfl, hg, hc⟩
 refine ⟨g, off, rfl, hg, fun k x hx => ?_⟩
 rw [← hc k x hx]
 exact World.cell?_of_block (w := w) (hb.block g hg)
theorem Lies.heap {w w' : World} {B sz : Nat} {v : Value} {rows : List (List Value)} (h : Lies w B sz v rows) (hh : w'.heap = w.heap) : Lies w' B sz v rows := by
 obtain ⟨A, cap, e, hz, hs, h⟩ := h
 refine ⟨A, cap, e, hz, hs, h.imp id ?_⟩
 rintro ⟨g, off, rfl, hg, hc⟩
 refine ⟨g, off, rfl, hg, fun k x hx => ?_⟩
 rw [← hc k x hx]
 exact World.cell?_of_block (w := w) (by rw [hh])
theorem Lies.mono {w : World} {B C sz : Nat} {v : Value} {rows : List (List Value)} (h : Lies w B sz v rows) (hB : B ≤ C) : Lies w C sz v rows := by
 obtain ⟨A, cap, e, hz, hs, h⟩ := h
 refine ⟨A, cap, e, hz, hs, h.imp id ?_⟩
 rintro ⟨g, off, rfl, hg, hc⟩
 exact ⟨g, off, rfl, by omega, hc⟩
theorem flat_at (sz : Nat) : ∀ (rows : List (List Value)), (∀ r ∈ rows, r.length = sz) → ∀ (j f : Nat) (hj : j < rows.length), f < sz → rows.flatten[j * sz + f]? = (rows[j])[f]?
 | [], _, j, f, hj, _ => by simp at hj
 | r :: rs, hs, 0, f, _, hf => by
  have := hs r (by simp)
  simp only [List.flatten_cons, Nat.zero_mul, Nat.zero_add, List.getElem_cons_zero]
  rw [List.getElem?_append_left (by omega)]
 | r :: rs, hs, j + 1, f, hj, hf => by
  have hr := hs r (by simp)
  have ih := flat_at sz rs (fun r hr => hs r (by simp [hr])) j f (by simp at hj; omega) hf
  simp only [List.flatten_cons, List.getElem_cons_succ]
  rw [List.getElem?_append_right (by rw [hr, Nat.succ_mul]; omega), ← ih, hr]
  congr 1
  rw [Nat.succ_mul]
  omega
theorem flat_length (sz : Nat) (rows : List (List Value)) (hs : ∀ r ∈ rows, r.length = sz) : rows.flatten.length = rows.length * sz := by
 induction rows with
 | nil => simp
 | cons r rs ih =>
  rw [List.flatten_cons, List.length_append, ih (fun r hr => hs r (by simp [hr])), hs r (by simp), List.length_cons, Nat.succ_mul]
  omega
theorem Lies.look {w : World} {B sz : Nat} {v : Value} {rows : List (List Value)} (h : Lies w B sz v rows) : ∃ A cap, v = .slice A rows.length cap ∧ ∀ j (hj : j < rows.length), ∃ g off, A = some ⟨g, off, none⟩ ∧ g < B ∧ ∀ f x, f < sz → (rows[j])[f]? = some x → w.cell? ⟨g, off + (j * sz + f), none⟩ = some x := by
 obtain ⟨A, cap, rfl, _, hs, h⟩ := h
 refine ⟨A, cap, rfl, fun j hj => ?_⟩
 rcases h with h | ⟨g, off, rfl, hg, hc⟩
 ·omega
 ·exact ⟨g, off, rfl, hg, fun f x hf hx => hc _ x (by rw [flat_at sz rows hs j f hj hf]; exact hx)⟩
theorem Lies.room {w : World} {B sz : Nat} {A : Option Addr} {n c : Nat} {rows : List (List Value)} (h : Lies w B sz (.slice A n c) rows) : n = rows.length ∧ n ≤ c := by
 obtain ⟨A', c', e, hz, _⟩ := h
 cases e
 exact ⟨rfl, hz.2⟩
theorem Lies.first {w : World} {B sz : Nat} {A : Option Addr} {n c : Nat} {rows : List (List Value)} (h : Lies w B sz (.slice A n c) rows) (k : Nat) (hk : k ≤ rows.length) : Lies w B sz (.slice A k c) (rows.take k) := by
 obtain ⟨A', c', e, hz, hs, h⟩ := h
 cases e
 have hl : (rows.take k).length = k := by rw [List.length_take]; omega
 refine ⟨A, c, by rw [hl], ⟨hz.1, by rw [hl]; exact Nat.le_trans hk hz.2⟩, fun r hr => hs r (List.mem_of_mem_take hr), ?_⟩
 rw [hl]
 rcases h with h | ⟨g, off, rfl, hg, hc⟩
 ·exact .inl (by omega)
 ·refine .inr ⟨g, off, rfl, hg, fun j x hx => hc j x ?_⟩
  rw [← List.take_append_drop k rows, List.flatten_append, List.getElem?_append_left ((List.getElem?_eq_some_iff.1 hx).1)]
  exact hx
def Owns (w : World) (base : Nat) (e : TypeId) (sz : Nat) (v : Value) (rows : List (List Value)) : Prop := (∀ r ∈ rows, r.length = sz) ∧ w.ownsRow base e sz v rows.length rows.flatten
theorem Owns.lt {w : World} {base : Nat} {e : TypeId} {sz : Nat} {v : Value} {rows : List (List Value)} (h : Owns w base e sz v rows) : ∀ k, v.ownBlock = some k → base ≤ k ∧ k < w.heap.size := World.ownsRow.lt h.2
theorem Owns.lies {w : World} {base : Nat} {e : TypeId} {sz : Nat} {v : Value} {rows : List (List Value)} (h : Owns w base e sz v rows) : Lies w w.heap.size sz v rows := by
 have hlt := h.lt
 have hc := fun g hg => World.ownsRow.cells h.2 (g := g) hg
 rcases h.2.2 with ⟨rfl, h0⟩ | ⟨g, cap, cur, rfl, _, _, hcap, _⟩
 ·exact ⟨none, 0, by rw [h0], ⟨fun _ => rfl, by omega⟩, h.1, .inl h0⟩
 ·refine ⟨_, cap, rfl, ⟨fun e => (by cases e), hcap⟩, h.1, .inr ⟨g, 0, rfl, (hlt g rfl).2, fun k x hx => ?_⟩⟩
  have e : (⟨g, 0, none⟩ : Addr).add k = ⟨g, 0 + k, none⟩ := by cases k <;> simp [Addr.add]
  rw [← e]
  exact hc g rfl k x hx
theorem Owns.kept {w w' : World} {base : Nat} {e : TypeId} {sz : Nat} {v : Value} {rows : List (List Value)} (h : Owns w base e sz v rows) (hk : ∀ g, g < w.heap.size → v.ownBlock = some g → w'.heap[g]? = w.heap[g]?) : Owns w' base e sz v rows := by
 have hl := h.lt
 refine ⟨h.1, h.2.1, h.2.2.imp id ?_⟩
 rintro ⟨g, cap, cur, rfl, hg, hh, r⟩
 refine ⟨g, cap, cur, rfl, hg, ?_, r⟩
 rw [hk g (hl g rfl).2 rfl]
 exact hh
theorem Owns.on {w w' : World} {base : Nat} {e : TypeId} {sz : Nat} {v : Value} {rows : List (List Value)} (h : Owns w base e sz v rows) (hb : Below w.heap.size w w') : Owns w' base e sz v rows := h.kept fun g hg _ => hb.block g hg
theorem Owns.heap {w w' : World} {base : Nat} {e : TypeId} {sz : Nat} {v : Value} {rows : List (List Value)} (h : Owns w base e sz v rows) (hh : w'.heap = w.heap) : Owns w' base e sz v rows := h.kept fun g _ _ => by rw [hh]
theorem Owns.mono {w : World} {base base' : Nat} {e : TypeId} {sz : Nat} {v : Value} {rows : List (List Value)} (h : Owns w base e sz v rows) (hb : base' ≤ base) : Owns w base' e sz v rows :=
 ⟨h.1, h.2.1, h.2.2.imp id fun ⟨g, cap, cur, e, hg, r⟩ => ⟨g, cap, cur, e, Nat.le_trans hb hg, r⟩⟩
theorem getD_mem {α : Type} [Inhabited α] (l : List α) (j : Nat) (h : j < l.length) : l.getD j default ∈ l := by
 rw [List.getD_eq_getElem?_getD, List.getElem?_eq_getElem h]
 exact List.getElem_mem h
theorem getD_at {α : Type} [Inhabited α] (l : List α) (j : Nat) (h : j < l.length) : l[j] = l.getD j default := by
 rw [List.getD_eq_getElem?_getD, List.getElem?_eq_getElem h]
 rfl
theorem take_getD {α : Type} [Inhabited α] (l : List α) (j : Nat) (h : j < l.length) : l.take (j + 1) = l.take j ++ [l.getD j default] := by
 rw [List.take_add_one, List.getElem?_eq_getElem h, ← getD_at l j h]
 rfl
def entC (x : Ent) : List Value := [.int .i64 x.term, .string x.data]
def entR (l : List Ent) : List (List Value) := l.map entC
theorem entR_snoc (l : List Ent) (k : Nat) (h : k < l.length) : entR (l.take (k + 1)) = entR (l.take k) ++ [entC (l.getD k default)] := by
 unfold entR
 rw [take_getD l k h, List.map_append]
 rfl
theorem entR_length (l : List Ent) : (entR l).length = l.length := by simp [entR]
theorem entR_append (l m : List Ent) : entR (l ++ m) = entR l ++ entR m := by simp [entR]
theorem ent_look {w : World} {B : Nat} {v : Value} {l : List Ent} (h : Lies w B 2 v (entR l)) : ∃ A cap, v = .slice A l.length cap ∧ ∀ j, j < l.length → ∃ g off, A = some ⟨g, off, none⟩ ∧ g < B ∧
  w.cell? ⟨g, off + j * 2, none⟩ = some (.int .i64 (l.getD j default).term) ∧ w.cell? ⟨g, off + j * 2 + 1, none⟩ = some (.string (l.getD j default).data) := by
 obtain ⟨A, cap, e, h⟩ := h.look
 refine ⟨A, cap, by rw [e]; simp [entR], fun j hj => ?_⟩
 rw [← getD_at l j hj]
 obtain ⟨g, off, e, hg, hc⟩ := h j (by simpa [entR] using hj)
 refine ⟨g, off, e, hg, ?_, ?_⟩
 ·have := hc 0 _ (by omega) (by simp [entR, entC]; rfl); simpa [Nat.add_assoc] using this
 ·have := hc 1 _ (by omega) (by simp [entR, entC]; rfl); simpa [Nat.add_assoc] using this
def WalV (w : World) (B : Nat) (v : Value) (x : Wl) : Prop := ∃ u, v = .agg #[.int .i64 x.term, .int .i64 x.vote, .int .i64 x.base, .int .i64 x.bterm, u] ∧ Lies w B 2 u (entR x.ents)
theorem WalV.on {w w' : World} {B : Nat} {v : Value} {x : Wl} (h : WalV w B v x) (hb : Below B w w') : WalV w' B v x := by
 obtain ⟨u, e, h⟩ := h
 exact ⟨u, e, h.on hb⟩
theorem WalV.mono {w : World} {B C : Nat} {v : Value} {x : Wl} (h : WalV w B v x) (hB : B ≤ C) : WalV w C v x := by
 obtain ⟨u, e, h⟩ := h
 exact ⟨u, e, h.mono hB⟩
def WalO (w : World) (base : Nat) (v : Value) (x : Wl) : Prop := ∃ u, v = .agg #[.int .i64 x.term, .int .i64 x.vote, .int .i64 x.base, .int .i64 x.bterm, u] ∧ Owns w base 71 2 u (entR x.ents)
theorem WalO.lies {w : World} {base : Nat} {v : Value} {x : Wl} (h : WalO w base v x) : WalV w w.heap.size v x := by
 obtain ⟨u, e, h⟩ := h
 exact ⟨u, e, h.lies⟩
theorem WalO.on {w w' : World} {base : Nat} {v : Value} {x : Wl} (h : WalO w base v x) (hb : Below w.heap.size w w') : WalO w' base v x := by
 obtain ⟨u, e, h⟩ := h
 exact ⟨u, e, h.on hb⟩
theorem WalO.mono {w : World} {base base' : Nat} {v : Value} {x : Wl} (h : WalO w base v x) (hb : base' ≤ base) : WalO w base' v x := by
 obtain ⟨u, e, h⟩ := h
 exact ⟨u, e, h.mono hb⟩
structure FitsW (x : Wl) : Prop where
 n : x.ents.length ≤ maxLen
 d : ∀ e ∈ x.ents, e.data.size ≤ maxLen
end Go.Proofs.Ytlhoonohpfpkbaa
namespace Go.Proofs.Ytlhoonohpfpkbaa
open Go.RowKit Go.PlainAid
def Blk (w : World) (g : Nat) (cs : Array Value) (t : TypeId) : Prop := w.heap[g]? = some (.cells cs t (0, 0))
theorem Blk.lt {w : World} {g : Nat} {cs : Array Value} {t : TypeId} (h : Blk w g cs t) : g < w.heap.size := lt_of_block h
theorem Blk.cell {w : World} {g : Nat} {cs : Array Value} {t : TypeId} (h : Blk w g cs t) (i : Nat) (x : Value) (hx : cs[i]? = some x) : w.cell? ⟨g, i, none⟩ = some x := by
 rw [cell_of_row w g i cs t (0, 0) h]
 exact hx
theorem Blk.free {w : World} {g : Nat} {cs : Array Value} {t : TypeId} (h : Blk w g cs t) (i : Nat) : w.frozen? ⟨g, i, none⟩ = false := frozen_of_row w g i cs t h
theorem Blk.set {w : World} {g : Nat} {cs : Array Value} {t : TypeId} (h : Blk w g cs t) (i : Nat) (x : Value) : Blk (w.setCell ⟨g, i, none⟩ x) g (cs.setIfInBounds i x) t := heap_setCell_same w g i cs t x h
theorem Blk.other {w : World} {g g' : Nat} {cs : Array Value} {t : TypeId} (h : Blk w g cs t) (hne : g ≠ g') (i : Nat) (x : Value) : Blk (w.setCell ⟨g', i, none⟩ x) g cs t := by
 unfold Blk
 rw [Below.heap_setCell _ _ _ _ hne]
 exact h
theorem Blk.on {w w' : World} {B g : Nat} {cs : Array Value} {t : TypeId} (h : Blk w g cs t) (hb : Below B w w') (hg : g < B) : Blk w' g cs t := by
 unfold Blk
 rw [hb.block g hg]
 exact h
theorem Blk.new (w : World) (cs : Array Value) (t : TypeId) : Blk (w.alloc (.cells cs t)) w.heap.size cs t := heap_alloc_new w _
theorem Blk.alloc {w : World} {g : Nat} {cs : Array Value} {t : TypeId} (h : Blk w g cs t) (o : Obj) : Blk (w.alloc o) g cs t := by
 unfold Blk
 rw [Below.heap_alloc w o g h.lt]
 exact h
theorem Owns.other {w : World} {base : Nat} {e : TypeId} {sz : Nat} {v : Value} {rows : List (List Value)} (h : Owns w base e sz v rows) {g : Nat} (hne : v.ownBlock ≠ some g) (i : Nat) (x : Value) : Owns (w.setCell ⟨g, i, none⟩ x) base e sz v rows :=
 h.kept fun k _ hk => Below.heap_setCell _ _ _ _ (fun e => hne (by rw [hk]; exact congrArg some e))
theorem Owns.below {w : World} {base : Nat} {e : TypeId} {sz : Nat} {v : Value} {rows : List (List Value)} (h : Owns w base e sz v rows) {g : Nat} (hg : g < base) : v.ownBlock ≠ some g := fun e => by
 have := (h.lt g e).1
 omega
theorem Owns.shape {w : World} {base : Nat} {e : TypeId} {sz : Nat} {v : Value} {rows : List (List Value)} (h : Owns w base e sz v rows) : ∃ A m c, v = .slice A m c := by
 rcases h.2.2 with ⟨rfl, _⟩ | ⟨g, cap, cur, rfl, _⟩
 ·exact ⟨_, _, _, rfl⟩
 ·exact ⟨_, _, _, rfl⟩
end Go.Proofs.Ytlhoonohpfpkbaa
namespace Go.Proofs.Ytlhoonohpfpkbaa
open Go.ChangeShapes Go.WideShapes Go.ChangeAt Go.RowKit Go.PlainAid
set_option linter.unusedVariables false
def wtE1 (x : Ent) : Nat := x.data.size
def wtE : List Ent → Nat
 | [] => 0
 | x :: r => wtE1 x + wtE r
theorem wtE_snoc (l : List Ent) (k : Nat) (h : k < l.length) : wtE (l.take (k + 1)) = wtE (l.take k) + wtE1 (l.getD k default) := by
 rw [← getD_at l k h]
 induction l generalizing k with
 | nil => simp at h
 | cons x r ih =>
  cases k with
  | zero => simp [wtE]
  | succ k => simp only [List.take_succ_cons, wtE, List.getElem_cons_succ]; rw [ih k (by simpa using h)]; omega
def vEnt (x : Ent) : Value := .agg #[.int .i64 x.term, .string x.data]
set_option maxHeartbeats 400000 in
theorem szEntry (x : Ent) (left : Int) (w : World) (h0 : 0 ≤ left) (h1 : left ≤ 1048576) (hx : x.data.size ≤ maxLen) :
  Calls Try.prog 46 #[vEnt x, .int .i64 left] w fun e w' => (∃ r, e = .returned (.int .i64 r) ∧ Hid (r = -1 ∨ 0 ≤ r ∧ r + (wtE1 x : Int) = left)) ∧ Below w.heap.size w w' := by
 unfold maxLen at hx
 unfold vEnt wtE1
 obtain ⟨xterm, xdata⟩ := x
 simp only at hx ⊢
 generalize hn : xdata.size = n at *
 have q1 : (n : Int) ≤ 9223372036854775807 := by omega
 have w2 : wrap64 (left - (n : Int)) = left - (n : Int) := by unfold wrap64; omega
 by_cases hl : left < (n : Int)
 ·have HL : Hid (left < (n : Int)) := hl
  have q2 : left - (n : Int) < 0 := by omega
  go_enter Try.func46, Try.ntmps46
  go_wp2
  go_ret
  exact ⟨⟨_, rfl, .inl rfl⟩, (Below.refl _ _).alloc (Nat.le_refl _) _⟩
 ·have HL : Hid ((n : Int) ≤ left) := by unfold Hid; omega
  have q2 : 0 ≤ left - (n : Int) := by omega
  have q3 : decide (left - (n : Int) < 0) = false := decide_eq_false (by omega)
  go_enter Try.func46, Try.ntmps46
  go_wp2
  go_ret
  exact ⟨⟨_, rfl, .inr ⟨by have := HL.out; omega, by omega⟩⟩, (Below.refl _ _).alloc (Nat.le_refl _) _⟩
set_option maxHeartbeats 1000000 in
theorem szEntryS (l : List Ent) (v : Value) (left : Int) (w : World) (B : Nat) (hv : Lies w B 2 v (entR l)) (hd : ∀ x ∈ l, x.data.size ≤ maxLen) (hn : l.length ≤ maxLen) (h0 : 0 ≤ left) (h1 : left ≤ 1048576) (hB : B ≤ w.heap.size) :
  Calls Try.prog 20 #[v, .int .i64 left] w fun e w' => ∃ r : Int, e = .returned (.int .i64 r) ∧ (r = -1 ∨ 0 ≤ r ∧ r + ((l.length + wtE l : Nat) : Int) = left) ∧ Below w.heap.size w w' := by
 unfold maxLen at hn
 obtain ⟨A, cap, rfl, hl⟩ := ent_look hv
 have HL : Hid (∀ j, j < l.length → ∃ g off, A = some ⟨g, off, none⟩ ∧ g < B ∧ _) := hl
 have HD : Hid (∀ x ∈ l, x.data.size ≤ maxLen) := hd
 have HB : Hid (B ≤ w.heap.size) := hB
 clear hl hd hB hv
 have q1 : (l.length : Int) ≤ 9223372036854775807 := by omega
 have w2 : wrap64 (left - (l.length : Int)) = left - (l.length : Int) := by unfold wrap64; omega
 by_cases hs : left < (l.length : Int)
 ·have q2 : left - (l.length : Int) < 0 := by omega
  go_enter Try.func20, Try.ntmps20
  go_wp2_with fail
  go_ret
  exact ⟨-1, rfl, .inl rfl, Below.refl _ _⟩
 ·have q2 : 0 ≤ left - (l.length : Int) := by omega
  have q3 : decide (left - (l.length : Int) < 0) = false := decide_eq_false (by omega)
  have HQ : Hid (0 ≤ left - (l.length : Int)) := q2
  generalize hN : l.length = n at *
  go_enter Try.func20, Try.ntmps20
  go_wp2_with fail
  clear q2 q3 w2
  go_loopw [1, 5] (fun v1 v5 wr => ∃ (k : Nat) (r : Int), k ≤ n ∧ v5 = .int .i64 (k : Int) ∧ v1 = .int .i64 r ∧ 0 ≤ r ∧ r + ((n + wtE (l.take k) : Nat) : Int) = left ∧ Below w.heap.size w wr) (fun _ i _ => n - (intOf i).toNat)
  case atStart => exact ⟨0, left - (n : Int), by omega, rfl, rfl, HQ.out, by simp [wtE], Below.refl _ _⟩
  case round =>
   obtain ⟨k, r, hk, rfl, rfl, hr0, hr, hb⟩ := hrel
   have HR : Hid (r + ((n + wtE (l.take k) : Nat) : Int) = left) := hr
   have HB1 : Hid (Below w.heap.size w wr) := hb
   have q9 : r ≤ 1048576 := by omega
   clear hr hb
   by_cases hlt : k < n
   ·have q4 : (k : Int) < (n : Int) := by omega
    obtain ⟨g, off, rfl, hg, hc0, hc1⟩ := HL.out k (by omega)
    have hgw : g < w.heap.size := Nat.lt_of_lt_of_le hg HB.out
    rw [← HB1.out.cell (p := ⟨_, _, none⟩) hgw] at hc0
    rw [← HB1.out.cell (p := ⟨_, _, none⟩) hgw] at hc1
    have c1 := fun wx => szEntry (l.getD k default) r wx hr0 q9 (HD.out _ (getD_mem l k (by omega)))
    have HW : Hid (wtE (l.take (k + 1)) = wtE (l.take k) + wtE1 (l.getD k default)) := wtE_snoc l k (by omega)
    unfold vEnt at c1
    generalize wtE1 (l.getD k default) = t at *
    generalize l.getD k default = x at *
    go_wp2_with fail
    refine (c1 _).mono ?_
    rintro e w2 ⟨⟨r2, rfl, hr2⟩, hb2⟩
    have HR2 : Hid (r2 = -1 ∨ 0 ≤ r2 ∧ r2 + (t : Int) = r) := hr2
    have HB2 : Hid (Below w.heap.size w w2) := HB1.out.trans (hb2.mono HB1.out.size)
    clear hr2 hb2
    rcases HR2.out with rfl | ⟨hp, hq⟩
    ·go_wp2_with fail
     go_ret
     exact ⟨-1, rfl, .inl rfl, HB2.out⟩
    ·have q5 : decide (r2 < 0) = false := decide_eq_false (by omega)
     have HQ2 : Hid (r2 + (t : Int) = r) := hq
     clear hq
     go_wp2_with fail
     go_roundw
     case rel => exact ⟨k + 1, r2, by omega, by go_num, rfl, hp, by have := HR.out; have := HQ2.out; rw [HW.out]; omega, HB2.out⟩
     case measure => simp [intOf]; omega
   ·obtain rfl : k = n := by omega
    go_wp2_with fail
    go_ret
    exact ⟨r, rfl, .inr ⟨hr0, by have := HR.out; rw [← hN, List.take_length] at this; rw [← hN]; exact this⟩, HB1.out⟩
def vRcd (x : Rcd) : Value := .agg #[.int .i64 x.kind, .int .i64 x.term, .int .i64 x.index, .int .i64 x.vote, .string x.data]
theorem wtE_mem (l : List Ent) : ∀ e ∈ l, e.data.size ≤ wtE l := by
 induction l with
 | nil => intro e he; cases he
 | cons x r ih =>
  intro e he
  unfold wtE wtE1
  rcases List.mem_cons.1 he with rfl | h
  ·omega
  ·have := ih e h; omega
end Go.Proofs.Ytlhoonohpfpkbaa
namespace Go.Proofs.Ytlhoonohpfpkbaa
open Go.RowKit Go.PlainAid
def numCells (l : List Int) : List Value := l.map fun z => Value.int .i64 z
def Nums (w : World) (base : Nat) (v : Value) (l : List Int) : Prop := w.ownsRow base 3 1 v l.length (numCells l)
def NumsV (w : World) (B : Nat) (v : Value) (l : List Int) : Prop :=
 ∃ A cap, v = .slice A l.length cap ∧ l.length ≤ cap ∧ cap ≤ maxLen ∧ ∀ j, j < l.length → ∃ g off, A = some ⟨g, off, none⟩ ∧ g < B ∧ w.cell? ⟨g, off + j, none⟩ = some (.int .i64 (l.getD j 0))
theorem Nums.nil (w : World) (base : Nat) : Nums w base (.slice none 0 0) [] := World.ownsRow_nil w base 3 1
theorem Nums.empty (w : World) (base : Nat) (hb : base ≤ w.heap.size) : Nums (w.alloc (.cells #[] 3)) base (.slice (some ⟨w.heap.size, 0, none⟩) 0 0) [] :=
 World.ownsRow_lit w #[] 0 hb (by unfold maxLen; omega) rfl
theorem Nums.one (w : World) (base : Nat) (z : Int) (hb : base ≤ w.heap.size) : Nums (w.alloc (.cells #[.int .i64 z] 3)) base (.slice (some ⟨w.heap.size, 0, none⟩) 1 1) [z] :=
 World.ownsRow_lit w #[.int .i64 z] 1 hb (by unfold maxLen; omega) rfl
theorem Nums.mono {w : World} {base base' : Nat} {v : Value} {l : List Int} (h : Nums w base v l) (hb : base' ≤ base) : Nums w base' v l :=
 ⟨h.1, h.2.imp id fun ⟨g, cap, cur, e, hg, r⟩ => ⟨g, cap, cur, e, Nat.le_trans hb hg, r⟩⟩
theorem Nums.lt {w : World} {base : Nat} {v : Value} {l : List Int} (h : Nums w base v l) : ∀ k, v.ownBlock = some k → base ≤ k ∧ k < w.heap.size := World.ownsRow.lt h
theorem Nums.kept {w w' : World} {base : Nat} {v : Value} {l : List Int} (h : Nums w base v l) (hk : ∀ g, g < w.heap.size → v.ownBlock = some g → w'.heap[g]? = w.heap[g]?) : Nums w' base v l := by
 have hl := World.ownsRow.lt h
 refine ⟨h.1, h.2.imp id ?_⟩
 rintro ⟨g, cap, cur, rfl, hg, hh, r⟩
 refine ⟨g, cap, cur, rfl, hg, ?_, r⟩
 rw [hk g (hl g rfl).2 rfl]
 exact hh
theorem Nums.on {w w' : World} {base : Nat} {v : Value} {l : List Int} (h : Nums w base v l) (hb : Below w.heap.size w w') : Nums w' base v l := h.kept fun g hg _ => hb.block g hg
theorem Nums.under {w w' : World} {base B : Nat} {v : Value} {l : List Int} (h : Nums w base v l) (hB : w.heap.size ≤ B) (hb : Below B w w') : Nums w' base v l := h.kept fun g hg _ => hb.block g (Nat.lt_of_lt_of_le hg hB)
theorem Nums.heap {w w' : World} {base : Nat} {v : Value} {l : List Int} (h : Nums w base v l) (hh : w'.heap = w.heap) : Nums w' base v l := h.kept fun g _ _ => by rw [hh]
theorem Nums.alloc {w : World} {base : Nat} {v : Value} {l : List Int} (h : Nums w base v l) (o : Obj) : Nums (w.alloc o) base v l := World.ownsRow.alloc h o
theorem Nums.other {w : World} {base : Nat} {v : Value} {l : List Int} (h : Nums w base v l) {g : Nat} (hne : v.ownBlock ≠ some g) (i : Nat) (x : Value) : Nums (w.setCell ⟨g, i, none⟩ x) base v l :=
 h.kept fun k _ hk => Below.heap_setCell _ _ _ _ (fun e => hne (by rw [hk]; exact congrArg some e))
theorem Nums.others {w w' : World} {base b : Nat} {v : Value} {l : List Int} (h : Nums w base v l) (hk : Lib.OthersKept 5 (some b) w w') (hb : v.ownBlock ≠ some b) : Nums w' base v l :=
 h.kept fun g hg ho => by
  obtain ⟨c, fz, e1⟩ := Lib.ownsRow_kind h g ho
  rw [hk g _ e1 (fun e => hb (by rw [ho]; exact e)) (fun c fz e => by cases e), e1]
theorem Nums.form {w : World} {base : Nat} {v : Value} {l : List Int} (h : Nums w base v l) : (v = .slice none 0 0 ∧ l = []) ∨ ∃ g cap, v = .slice (some ⟨g, 0, none⟩) l.length cap ∧ l.length ≤ cap ∧ cap ≤ maxLen ∧ base ≤ g ∧ g < w.heap.size := by
 have hl := World.ownsRow.lt h
 rcases h.2 with ⟨rfl, h0⟩ | ⟨g, cap, cur, rfl, hg, _, hc, hm, _⟩
 ·exact .inl ⟨rfl, List.eq_nil_of_length_eq_zero h0⟩
 ·exact .inr ⟨g, cap, rfl, hc, hm, hg, (hl g rfl).2⟩
theorem Nums.shape {w : World} {base : Nat} {v : Value} {l : List Int} (h : Nums w base v l) : ∃ A c, v = .slice A l.length c ∧ l.length ≤ c ∧ c ≤ maxLen := by
 rcases h.form with ⟨rfl, rfl⟩ | ⟨g, c, rfl, h1, h2, _⟩
 ·exact ⟨_, _, rfl, by simp, by unfold maxLen; omega⟩
 ·exact ⟨_, _, rfl, h1, h2⟩
theorem Nums.len {w : World} {base n cap : Nat} {A : Option Addr} {l : List Int} (h : Nums w base (.slice A n cap) l) : n = l.length := by
 rcases h.form with ⟨e, e2⟩ | ⟨g', c', e, _⟩
 ·injection e with _ e1; rw [e1, e2]; rfl
 ·injection e
theorem Nums.cell {w : World} {base g cap n : Nat} {l : List Int} (h : Nums w base (.slice (some ⟨g, 0, none⟩) n cap) l) (j : Nat) (hj : j < l.length) : w.cell? ⟨g, j, none⟩ = some (.int .i64 (l.getD j 0)) := by
 have hn := h.len
 subst hn
 rw [World.ownsRow.cellAt h j (by omega)]
 simp [numCells, hj]
theorem Nums.frozen {w : World} {base g cap n : Nat} {l : List Int} (h : Nums w base (.slice (some ⟨g, 0, none⟩) n cap) l) (j : Nat) : w.frozen? ⟨g, j, none⟩ = false := by
 have hn := h.len
 subst hn
 exact World.ownsRow.frozenAt h j
theorem Nums.stored {w : World} {base g cap n : Nat} {l : List Int} (h : Nums w base (.slice (some ⟨g, 0, none⟩) n cap) l) (j : Nat) (x : Int) :
  Nums (w.setCell ⟨g, j, none⟩ (.int .i64 x)) base (.slice (some ⟨g, 0, none⟩) n cap) (l.set j x) := by
 have hn := h.len
 subst hn
 have hs := (World.ownsRow.stored h j (.int .i64 x)).1
 unfold Nums
 rw [List.length_set, numCells, List.map_set]
 exact hs
theorem Nums.block {w : World} {base n cap : Nat} {A : Option Addr} {l : List Int} (h : Nums w base (.slice A n cap) l) (hn : 0 < l.length) : ∃ g, A = some ⟨g, 0, none⟩ ∧ base ≤ g ∧ g < w.heap.size := by
 rcases h.form with ⟨e, e2⟩ | ⟨g', c', e, _, _, h3, h4⟩
 ·rw [e2] at hn; simp at hn
 ·injection e with e1; exact ⟨g', e1, h3, h4⟩
theorem Nums.lies {w : World} {base : Nat} {v : Value} {l : List Int} (h : Nums w base v l) : NumsV w w.heap.size v l := by
 rcases h.form with ⟨rfl, rfl⟩ | ⟨g, c, rfl, h1, h2, h3, h4⟩
 ·exact ⟨none, 0, rfl, Nat.zero_le _, by unfold maxLen; omega, fun j hj => by simp at hj⟩
 ·exact ⟨_, c, rfl, h1, h2, fun j hj => ⟨g, 0, rfl, h4, by rw [Nat.zero_add]; exact h.cell j hj⟩⟩
theorem NumsV.on {w w' : World} {B : Nat} {v : Value} {l : List Int} (h : NumsV w B v l) (hb : Below B w w') : NumsV w' B v l := by
 obtain ⟨A, cap, rfl, h1, h2, h3⟩ := h
 refine ⟨A, cap, rfl, h1, h2, fun j hj => ?_⟩
 obtain ⟨g, off, rfl, hg, hc⟩ := h3 j hj
 exact ⟨g, off, rfl, hg, by rw [hb.cell (p := ⟨_, _, none⟩) hg]; exact hc⟩
theorem NumsV.mono {w : World} {B C : Nat} {v : Value} {l : List Int} (h : NumsV w B v l) (hB : B ≤ C) : NumsV w C v l := by
 obtain ⟨A, cap, rfl, h1, h2, h3⟩ := h
 refine ⟨A, cap, rfl, h1, h2, fun j hj => ?_⟩
 obtain ⟨g, off, rfl, hg, hc⟩ := h3 j hj
 exact ⟨g, off, rfl, Nat.lt_of_lt_of_le hg hB, hc⟩
theorem NumsV.heap {w w' : World} {B : Nat} {v : Value} {l : List Int} (h : NumsV w B v l) (hh : w'.heap = w.heap) : NumsV w' B v l := by
 obtain ⟨A, cap, rfl, h1, h2, h3⟩ := h
 refine ⟨A, cap, rfl, h1, h2, fun j hj => ?_⟩
 obtain ⟨g, off, rfl, hg, hc⟩ := h3 j hj
 exact ⟨g, off, rfl, hg, by unfold World.cell? at *; rw [hh]; exact hc⟩
theorem getD_set_same (l : List Int) (j : Nat) (x : Int) (h : j < l.length) : (l.set j x).getD j 0 = x := by simp [List.getD, h]
theorem getD_set_ne (l : List Int) (j k : Nat) (x : Int) (h : j ≠ k) : (l.set j x).getD k 0 = l.getD k 0 := by simp [List.getD, List.getElem?_set_ne h]
theorem take_num (l : List Int) (k : Nat) (h : k < l.length) : l.take (k + 1) = l.take k ++ [l.getD k 0] := by
 rw [List.take_succ_eq_append_getElem h]
 simp [List.getD, h]
theorem fill_num (done : List Int) (r : Int) (n k : Nat) (hk : done.length = k) (hn : k < n) : (done ++ List.replicate (n - k) 0).set k r = (done ++ [r]) ++ List.replicate (n - (k + 1)) 0 := by
 obtain ⟨m, rfl⟩ : ∃ m, n = k + 1 + m := ⟨n - (k + 1), by omega⟩
 rw [show k + 1 + m - k = m + 1 by omega, show k + 1 + m - (k + 1) = m by omega, List.set_append_right _ _ (by omega), hk, Nat.sub_self, List.replicate_succ, List.set_cons_zero]
 simp
theorem wpList_append_num {P : Program} {w : World} {ops : Array Oper} {rest : List Oper} {o : Oper} {a : Act} {Q : Exit → Act → World → Prop} (hgd : o.guard = none) (s x : Operand) (t : TypeId)
  (ho : o.op = .call { callee := .builtin .append, args := #[s, x], argTypes := #[t, t] })
  (ht : P.underlying t = some (.slice 3)) (hinfo : (P.info? 3).map (fun i => (i.zero, i.size, i.bytes)) = some (some (.int .i64 0), 1, 8))
  (base : Nat) (v : Value) (l : List Int) (hs : a.eval s = v) (hown : Nums w base v l) (z : Int)
  (hx : a.eval x = .slice (some ⟨w.heap.size, 0, none⟩) 1 1) (hlen : l.length ≤ 2097152) (hbase : base ≤ w.heap.size)
  (h : ∀ v' w', Nums w' base v' (l ++ [z]) → Below base w w' → (∀ g, g < w.heap.size → v.ownBlock ≠ some g → w'.heap[g]? = w.heap[g]?) → wpList P ops Q rest (a.put o.dst v') w') : wpList P ops Q (o :: rest) a (w.alloc (.cells #[.int .i64 z] 3)) := by
 obtain ⟨i0, hi, hz0, hz1, hz2⟩ := info_parts hinfo
 refine wpList_append_own (w := w.alloc (.cells #[.int .i64 z] 3)) hgd s x t ho base 3 i0 (.int .i64 0) 1 8 ht hi hz0 hz1 hz2 rfl (by decide) v l.length (numCells l) hs (hown.alloc _) ⟨w.heap.size, 0, none⟩ 1 1 [.int .i64 z] hx rfl ?_ ?_ ?_ ?_ ?_ ?_
 ·intro j u hj
  have e : (⟨w.heap.size, 0, none⟩ : Addr).add j = ⟨w.heap.size, j, none⟩ := by cases j <;> simp [Addr.add]
  rw [e, World.cell?_alloc_mark]
  simpa using hj
 ·intro u hu
  simp at hu
  subst hu
  rfl
 ·unfold maxLen; omega
 ·omega
 ·simp; omega
 ·intro v' w' h1 h2 _
  have hb0 : ∀ k, v.ownBlock = some k → base ≤ k := fun k hk => (World.ownsRow.lt hown k hk).1
  refine h v' w' ?_ ?_ ?_
  ·unfold Nums
   rw [List.length_append, numCells, List.map_append]
   exact h1
  ·exact ((Below.refl base w).alloc hbase _).grown h2 (by simp; omega) hb0
  ·intro g hg hne
   rw [h2.block g (by simp; omega) (fun e => hne e.symm)]
   exact Below.heap_alloc w _ g hg
def nmarks (k n : Nat) : List Int := (List.range n).map fun j => ((k + j : Nat) : Int)
theorem nmarks_length (k n : Nat) : (nmarks k n).length = n := by simp [nmarks]
theorem nmarks_get (k n j : Nat) (h : j < n) : (nmarks k n).getD j 0 = ((k + j : Nat) : Int) := by simp [nmarks, List.getD, h]
def nmarked (k : Nat) (l : List Int) (j : Nat) : List Int := nmarks k j ++ l.drop j
theorem nmarked_zero (k : Nat) (l : List Int) : nmarked k l 0 = l := by simp [nmarked, nmarks]
theorem nmarked_length (k : Nat) (l : List Int) (j : Nat) (h : j ≤ l.length) : (nmarked k l j).length = l.length := by
 simp [nmarked, nmarks_length]
 omega
theorem nmarked_set (k : Nat) (l : List Int) (j : Nat) (h : j < l.length) : (nmarked k l j).set j ((k + j : Nat) : Int) = nmarked k l (j + 1) := by
 unfold nmarked
 rw [List.set_append_right _ _ (by rw [nmarks_length]; omega), nmarks_length, Nat.sub_self, List.drop_eq_getElem_cons h, List.set_cons_zero]
 unfold nmarks
 rw [List.range_succ, List.map_append]
 simp
theorem nmarked_all (k : Nat) (l : List Int) : nmarked k l l.length = nmarks k l.length := by simp [nmarked]
end Go.Proofs.Ytlhoonohpfpkbaa
namespace Go.Proofs.Ytlhoonohpfpkbaa
open Go.ChangeShapes Go.WideShapes Go.ChangeAt Go.RowKit Go.PlainAid
set_option linter.unusedVariables false
theorem Hid.mk {p : Prop} (h : p) : Hid p := h
structure Cor where
 id : Int
 peers : Int
 term : Int
 vote : Int
 role : Int
 lead : Int
 base : Int
 bterm : Int
 log : List Ent
 commit : Int
 yes : List Int
 nxt : List Int
 mat : List Int
def vCo (x : Cor) (ul uy un um : Value) : Value := .agg #[.int .i64 x.id, .int .i64 x.peers, .int .i64 x.term, .int .i64 x.vote, .int .i64 x.role, .int .i64 x.lead, .int .i64 x.base, .int .i64 x.bterm, ul, .int .i64 x.commit, uy, un, um]
def CorV (w : World) (B : Nat) (v : Value) (x : Cor) : Prop := ∃ ul uy un um, v = vCo x ul uy un um ∧ Lies w B 2 ul (entR x.log) ∧ NumsV w B uy x.yes ∧ NumsV w B un x.nxt ∧ NumsV w B um x.mat
theorem CorV.on {w w' : World} {B : Nat} {v : Value} {x : Cor} (h : CorV w B v x) (hb : Below B w w') : CorV w' B v x := by
 obtain ⟨ul, uy, un, um, e, h1, h2, h3, h4⟩ := h
 exact ⟨ul, uy, un, um, e, h1.on hb, h2.on hb, h3.on hb, h4.on hb⟩
theorem CorV.mono {w : World} {B C : Nat} {v : Value} {x : Cor} (h : CorV w B v x) (hB : B ≤ C) : CorV w C v x := by
 obtain ⟨ul, uy, un, um, e, h1, h2, h3, h4⟩ := h
 exact ⟨ul, uy, un, um, e, h1.mono hB, h2.mono hB, h3.mono hB, h4.mono hB⟩
structure FitsC (x : Cor) : Prop where
 n : x.log.length ≤ maxLen
 d : ∀ y ∈ x.log, y.data.size ≤ maxLen
 y : x.yes.length ≤ maxLen
 q : x.nxt.length ≤ maxLen
 m : x.mat.length ≤ maxLen
def wtC (x : Cor) : Nat := x.log.length + wtE x.log + x.yes.length + x.nxt.length + x.mat.length
structure ShortC (x : Cor) : Prop where
 n : x.log.length ≤ 1048576
 d : ∀ y ∈ x.log, y.data.size ≤ 1048576
 y : x.yes.length ≤ 1048576
 q : x.nxt.length ≤ 1048576
 m : x.mat.length ≤ 1048576
def cLast (x : Cor) : Int := x.base + (x.log.length : Int)
def corW (x : Cor) : Wl := ⟨x.term, x.vote, x.base, x.bterm, x.log⟩
def termAt (x : Cor) (i : Int) : Int := if i = x.base then x.bterm else (x.log.getD (i - x.base - 1).toNat default).term
structure RFol (x : Cor) : Prop where
 a : -1 ≤ x.lead
 b : x.lead ≤ x.peers - 1
 c : x.lead ≠ x.id
 y : x.yes.length = 0
 n : x.nxt.length = 0
 m : x.mat.length = 0
structure RSeek (x : Cor) : Prop where
 t : 1 ≤ x.term
 v : x.vote = x.id
 l : x.lead = -1
 i : ∀ j, j < x.yes.length → 0 ≤ x.yes.getD j 0 ∧ x.yes.getD j 0 ≤ x.peers - 1
 r : ∀ j, j + 1 < x.yes.length → x.yes.getD j 0 < x.yes.getD (j + 1) 0
 h : x.id ∈ x.yes
 f : 2 * (x.yes.length : Int) ≤ x.peers
 n : x.nxt.length = 0
 m : x.mat.length = 0
structure RLead (x : Cor) : Prop where
 t : 1 ≤ x.term
 v : x.vote = x.id
 l : x.lead = x.id
 y : x.yes.length = 0
 n : (x.nxt.length : Int) = x.peers
 m : (x.mat.length : Int) = x.peers
 a : ∀ j, j < x.mat.length → 0 ≤ x.mat.getD j 0 ∧ x.mat.getD j 0 < x.nxt.getD j 0 ∧ x.nxt.getD j 0 ≤ cLast x + 1
 o : x.mat.getD x.id.toNat 0 = cLast x
structure COk0 (x : Cor) : Prop where
 p : 1 ≤ x.peers ∧ x.peers ≤ 5
 i : 0 ≤ x.id ∧ x.id ≤ x.peers - 1
 w : walOk (corW x) = true
 v : x.vote < x.peers
 c : x.base ≤ x.commit ∧ x.commit ≤ cLast x
def RoleOk (x : Cor) : Prop := (x.role = 1 ∧ RFol x) ∨ (x.role = 2 ∧ RSeek x) ∨ (x.role = 3 ∧ RLead x)
def COk (x : Cor) : Prop := COk0 x ∧ RoleOk x
open Classical in
noncomputable def corOk (x : Cor) : Bool := decide (COk x)
open Classical in
noncomputable def roleB (x : Cor) : Bool := decide (RoleOk x)
def SeekP (x : Cor) : Prop := (∀ j, j < x.yes.length → 0 ≤ x.yes.getD j 0 ∧ x.yes.getD j 0 ≤ x.peers - 1) ∧ (∀ j, j + 1 < x.yes.length → x.yes.getD j 0 < x.yes.getD (j + 1) 0) ∧ x.id ∈ x.yes ∧ 2 * (x.yes.length : Int) ≤ x.peers
def ReachP (x : Cor) : Prop := (x.nxt.length : Int) = x.peers ∧ (x.mat.length : Int) = x.peers ∧ (∀ j, j < x.mat.length → 0 ≤ x.mat.getD j 0 ∧ x.mat.getD j 0 < x.nxt.getD j 0 ∧ x.nxt.getD j 0 ≤ cLast x + 1) ∧ x.mat.getD x.id.toNat 0 = cLast x
open Classical in
noncomputable def seekB (x : Cor) : Bool := decide (SeekP x)
open Classical in
noncomputable def reachB (x : Cor) : Bool := decide (ReachP x)
open Classical in
theorem seekB_no {x : Cor} (h : ¬ SeekP x) : seekB x = false := decide_eq_false h
open Classical in
theorem seekB_ok {x : Cor} (h : seekB x = true) : SeekP x := of_decide_eq_true h
open Classical in
theorem seekB_not {x : Cor} (h : seekB x = false) : ¬ SeekP x := of_decide_eq_false h
open Classical in
theorem reachB_no {x : Cor} (h : ¬ ReachP x) : reachB x = false := decide_eq_false h
open Classical in
theorem reachB_yes {x : Cor} (h : ReachP x) : reachB x = true := decide_eq_true h
open Classical in
theorem reachB_ok {x : Cor} (h : reachB x = true) : ReachP x := of_decide_eq_true h
open Classical in
theorem reachB_not {x : Cor} (h : reachB x = false) : ¬ ReachP x := of_decide_eq_false h
open Classical in
theorem corOk_yes {x : Cor} (h : COk x) : corOk x = true := decide_eq_true h
open Classical in
theorem corOk_no {x : Cor} (h : ¬ COk x) : corOk x = false := decide_eq_false h
open Classical in
theorem corOk_ok {x : Cor} (h : corOk x = true) : COk x := of_decide_eq_true h
open Classical in
theorem roleB_yes {x : Cor} (h : RoleOk x) : roleB x = true := decide_eq_true h
open Classical in
theorem roleB_no {x : Cor} (h : ¬ RoleOk x) : roleB x = false := decide_eq_false h
open Classical in
theorem seekB_yes {x : Cor} (h1 : ∀ j, j < x.yes.length → 0 ≤ x.yes.getD j 0 ∧ x.yes.getD j 0 ≤ x.peers - 1) (h2 : ∀ j, j + 1 < x.yes.length → x.yes.getD j 0 < x.yes.getD (j + 1) 0) (h3 : x.id ∈ x.yes) (h4 : 2 * (x.yes.length : Int) ≤ x.peers) : seekB x = true := decide_eq_true ⟨h1, h2, h3, h4⟩
open Classical in
theorem corOk_and {x : Cor} (h : COk0 x) : corOk x = roleB x := by
 unfold corOk roleB
 rw [decide_eq_decide]
 exact ⟨fun q => q.2, fun q => ⟨h, q⟩⟩
theorem walOk_in {x : Wl} (h : walOk x = true) : (0 ≤ x.term ∧ x.term ≤ 100000) ∧ (-1 ≤ x.vote ∧ x.vote ≤ 4) ∧ (0 ≤ x.base ∧ x.base ≤ 100000) ∧ (0 ≤ x.bterm ∧ x.bterm ≤ x.term) ∧ x.ents.length ≤ 60 ∧ x.base + (x.ents.length : Int) ≤ 100000 ∧ entsOk x.term x.bterm x.ents = true := by
 unfold walOk based inIt at h
 simp only [Bool.and_eq_true, decide_eq_true_eq] at h
 obtain ⟨⟨⟨⟨⟨⟨h1, h2⟩, h3⟩, h4⟩, h5⟩, h6⟩, h7⟩ := h
 refine ⟨h1, h2, ?_, ?_, h5, h6, h7⟩
 ·split at h3
  ·omega
  ·simp only [Bool.and_eq_true, decide_eq_true_eq] at h3
   omega
 ·split at h3
  ·have := of_decide_eq_true h3
   omega
  ·simp only [Bool.and_eq_true, decide_eq_true_eq] at h3
   omega
end Go.Proofs.Ytlhoonohpfpkbaa
namespace Go.Proofs.Ytlhoonohpfpkbaa
open Go.ChangeShapes Go.WideShapes Go.ChangeAt Go.RowKit Go.PlainAid
set_option linter.unusedVariables false
section
variable {H : Type} {enc : TypeId × Value → H} {P : Program} {w : World} {base : Nat} {spare : Nat → Bool} {held : Bool}
theorem open_rows {α : Type} [Inhabited α] {t e : TypeId} {fuel : Nat} {v : Value} {x : DataW H × List MemPlace} (ht : P.underlying t = some (.slice e)) (sz : Nat) (hsz : P.cellsOf e = sz) (hpos : 0 < sz) (C : α → List Value) (hC : ∀ y, (C y).length = sz) (G : α → Prop)
  (hel : ∀ n cs y, DataW.trod enc P w base spare held n e cs = some y → ∃ z, cs = C z ∧ G z)
  (h : DataW.trod enc P w base spare held fuel t [v] = some x) : ∃ l : List α, Lies w w.heap.size sz v (l.map C) ∧ l.length ≤ maxLen ∧ ∀ z ∈ l, G z := by
 rcases Go.Deep.open_slice ht h with ⟨hv, _⟩ | ⟨a, len, cap, m, n, D, Pl, hv, hb, hl, hm, hmm, _, hx⟩
 ·obtain rfl : v = .slice none 0 0 := by simpa using hv
  exact ⟨[], ⟨none, 0, rfl, ⟨fun _ => rfl, Nat.le_refl _⟩, fun r hr => (by cases hr), .inl rfl⟩, Nat.zero_le _, fun z hz => (by cases hz)⟩
 ·obtain rfl : v = .slice (some a) len cap := by simpa using hv
  have hlm : len ≤ m := by rw [hmm]; split <;> omega
  have hp : ∀ i, i < len → ∃ z, (∀ f, f < sz → w.cell? (a.add (i * sz + f)) = (C z)[f]?) ∧ G z := fun i hi => by
   obtain ⟨cs', h1, h2⟩ := hx i (by omega)
   obtain ⟨_, hlen, hc⟩ := World.cells?_some h1
   obtain ⟨z, rfl, hg⟩ := hel n cs' _ h2
   refine ⟨z, fun f hf => ?_, hg⟩
   have := hc f (by rw [hsz]; exact hf)
   rw [hsz, Go.Deep.add_add] at this
   exact this
  obtain ⟨X, hX⟩ := Go.Deep.choose_lt (α := α) (p := fun i z => (∀ f, f < sz → w.cell? (a.add (i * sz + f)) = (C z)[f]?) ∧ G z) hp
  have hll : ((List.range len).map X).length = len := by simp
  refine ⟨(List.range len).map X, ⟨some a, cap, by simp, ⟨fun e => (by cases e), by simpa using hl⟩, fun r hr => ?_, ?_⟩, by rw [hll]; omega, fun z hz => ?_⟩
  ·obtain ⟨y, _, rfl⟩ := List.mem_map.1 hr
   exact hC y
  ·by_cases h0 : len = 0
   ·exact .inl (by simp [h0])
   ·right
    obtain ⟨b, off, spot⟩ := a
    have hc0 := (hX 0 (by omega)).1 0 hpos
    have hlt0 : 0 < (C (X 0)).length := by rw [hC]; exact hpos
    rw [List.getElem?_eq_getElem hlt0] at hc0
    have hspot : spot = none := by simpa [Addr.add] using World.cell?_spot hc0
    subst hspot
    have hadd : ∀ j, (⟨b, off, none⟩ : Addr).add j = ⟨b, off + j, none⟩ := by intro j; cases j <;> simp [Addr.add]
    refine ⟨b, off, rfl, ?_, fun k x hk => ?_⟩
    ·rw [hadd] at hc0
     rcases Nat.lt_or_ge b w.heap.size with h | h
     ·exact h
     ·simp [World.cell?, Array.getElem?_eq_none h] at hc0
    ·have hkl : k < (((List.range len).map X).map C).flatten.length := (List.getElem?_eq_some_iff.1 hk).1
     have hrow : ∀ r ∈ ((List.range len).map X).map C, r.length = sz := fun r hr => by
      obtain ⟨y, _, rfl⟩ := List.mem_map.1 hr
      exact hC y
     rw [flat_length sz _ hrow, List.length_map, hll] at hkl
     have hdiv : k / sz < len := (Nat.div_lt_iff_lt_mul hpos).2 hkl
     have hmod : k % sz < sz := Nat.mod_lt _ hpos
     have hke : k / sz * sz + k % sz = k := by rw [Nat.mul_comm]; exact Nat.div_add_mod k sz
     have hfa := flat_at sz (((List.range len).map X).map C) hrow (k / sz) (k % sz) (by rw [List.length_map, hll]; exact hdiv) hmod
     rw [hke, hk] at hfa
     have hcx := (hX (k / sz) hdiv).1 (k % sz) hmod
     rw [hke, hadd] at hcx
     rw [hcx, hfa]
     simp
  ·obtain ⟨i, hi, rfl⟩ := List.mem_map.1 hz
   exact (hX i (by simpa using hi)).2
end
theorem list2 {α : Type} {l : List α} (h : l.length = 2) : ∃ a b, l = [a, b] := by
 match l, h with
 | [a, b], _ => exact ⟨a, b, rfl⟩
def IntOk (x : Int) : Prop := -9223372036854775808 ≤ x ∧ x ≤ 9223372036854775807
theorem cEnt : Try.prog.cellsOf 64 = 2 := by kernel_rfl
section
variable {H : Type} {enc : TypeId × Value → H} {w : World} {base : Nat} {spare : Nat → Bool} {held : Bool}
set_option maxRecDepth 100000 in
theorem open_ent (n : Nat) (cs : List Value) (y : DataW H × List MemPlace) (h : DataW.trod enc Try.prog w base spare held n 64 cs = some y) : ∃ z : Ent, cs = entC z ∧ (z.data.size ≤ maxLen ∧ IntOk z.term) := by
 obtain ⟨xs, m, _, _, hl, hlen, hf⟩ := DataW.trod_struct Try.underlying64 h
 rw [cEnt] at hl
 obtain ⟨a, b, rfl⟩ := list2 hl
 obtain ⟨x0, x1, rfl⟩ := list2 (show xs.length = 2 from hlen)
 have f0 := hf 0 _ rfl
 have f1 := hf 1 _ rfl
 simp only [List.getElem?_cons_zero, List.getElem?_cons_succ] at f0 f1
 obtain ⟨i0, e0, _, hw⟩ := DataW.trod_int Try.underlying3 f0
 obtain ⟨s1, e1, _, hs⟩ := DataW.trod_string Try.underlying9 f1
 cases e0
 cases e1
 exact ⟨⟨i0, s1⟩, rfl, hs, bounds_i64 hw⟩
end
end Go.Proofs.Ytlhoonohpfpkbaa
namespace Go.Proofs.Ytlhoonohpfpkbaa
open Go.ChangeShapes Go.WideShapes Go.ChangeAt Go.RowKit Go.PlainAid
set_option linter.unusedVariables false
theorem cCore : Try.prog.cellsOf 25 = 13 := by kernel_rfl
theorem cIntC : Try.prog.cellsOf 3 = 1 := by kernel_rfl
structure IntsC (x : Cor) : Prop where
 i : IntOk x.id
 p : IntOk x.peers
 t : IntOk x.term
 b : IntOk x.base
 c : IntOk x.commit
theorem list13 {α : Type} {l : List α} (h : l.length = 13) : ∃ a0 a1 a2 a3 a4 a5 a6 a7 a8 a9 a10 a11 a12, l = [a0, a1, a2, a3, a4, a5, a6, a7, a8, a9, a10, a11, a12] := by
 match l, h with
 | [a0, a1, a2, a3, a4, a5, a6, a7, a8, a9, a10, a11, a12], _ => exact ⟨a0, a1, a2, a3, a4, a5, a6, a7, a8, a9, a10, a11, a12, rfl⟩
section
variable {H : Type} {enc : TypeId × Value → H} {w : World} {base : Nat} {spare : Nat → Bool} {held : Bool}
theorem open_numsF {fuel : Nat} {v : Value} {x : DataW H × List MemPlace} (h : DataW.trod enc Try.prog w base spare held fuel 23 [v] = some x) : ∃ l : List Int, NumsV w w.heap.size v l ∧ l.length ≤ maxLen := by
 rcases open_ints Try.underlying23 Try.underlying3 cIntC h with ⟨hcs, _⟩ | ⟨a, len, cap, zs, hcs, _, hl, hm, hz, _, hcell, hwz⟩
 ·obtain rfl : v = .slice none 0 0 := by simpa using hcs
  exact ⟨[], ⟨none, 0, rfl, Nat.le_refl _, by unfold maxLen; omega, fun j hj => by simp at hj⟩, by simp⟩
 ·obtain rfl : v = .slice (some a) len cap := by simpa using hcs
  have hzl : len ≤ zs.length := by rw [hz]; split <;> omega
  have hlen : (zs.take len).length = len := by rw [List.length_take]; omega
  refine ⟨zs.take len, ⟨some a, cap, by rw [hlen], by rw [hlen]; exact hl, hm, fun j hj => ?_⟩, by rw [hlen]; omega⟩
  rw [hlen] at hj
  have hc := hcell j (by omega)
  obtain ⟨b, off, spot⟩ := a
  have hspot : spot = none := by simpa [Addr.add] using World.cell?_spot (hcell 0 (by omega))
  subst hspot
  have hadd : (⟨b, off, none⟩ : Addr).add j = ⟨b, off + j, none⟩ := by cases j <;> simp [Addr.add]
  rw [hadd] at hc
  refine ⟨b, off, rfl, World.block_lt_of_cell? _ _ hc, ?_⟩
  rw [hc]
  congr 2
  simp [List.getD, hj]
set_option maxRecDepth 100000 in
theorem open_core {r : Reach} {b0 : Nat} {v : Value} {dd : DataW H} {ps : List MemPlace} (hval : Value.okWide Try.prog w r b0 25 v) (hd : DataW.Trod enc Try.prog w base spare held 25 v dd ps) : ∃ x : Cor, CorV w w.heap.size v x ∧ FitsC x ∧ IntsC x := by
 obtain ⟨cs, rfl, hsz⟩ := okWide_struct Try.underlying25 hval
 rw [cCore] at hsz
 obtain ⟨fuel, hf0⟩ := hd
 obtain ⟨xs, m, _, _, _, hlen, hf⟩ := DataW.trod_struct Try.underlying25 hf0
 obtain ⟨l⟩ := cs
 obtain ⟨a0, a1, a2, a3, a4, a5, a6, a7, a8, a9, a10, a11, a12, rfl⟩ := list13 (show l.length = 13 from hsz)
 obtain ⟨x0, x1, x2, x3, x4, x5, x6, x7, x8, x9, x10, x11, x12, rfl⟩ := list13 (show xs.length = 13 from hlen)
 have f0 := hf 0 _ rfl
 have f1 := hf 1 _ rfl
 have f2 := hf 2 _ rfl
 have f3 := hf 3 _ rfl
 have f4 := hf 4 _ rfl
 have f5 := hf 5 _ rfl
 have f6 := hf 6 _ rfl
 have f7 := hf 7 _ rfl
 have f8 := hf 8 _ rfl
 have f9 := hf 9 _ rfl
 have f10 := hf 10 _ rfl
 have f11 := hf 11 _ rfl
 have f12 := hf 12 _ rfl
 simp only [Value.cells, List.getElem?_cons_zero, List.getElem?_cons_succ] at f0 f1 f2 f3 f4 f5 f6 f7 f8 f9 f10 f11 f12
 obtain ⟨i0, e0, _, w0⟩ := DataW.trod_int Try.underlying3 f0
 obtain ⟨i1, e1, _, w1⟩ := DataW.trod_int Try.underlying3 f1
 obtain ⟨i2, e2, _, w2⟩ := DataW.trod_int Try.underlying3 f2
 obtain ⟨i3, e3, _, w3⟩ := DataW.trod_int Try.underlying3 f3
 obtain ⟨i4, e4, _, w4⟩ := DataW.trod_int Try.underlying3 f4
 obtain ⟨i5, e5, _, w5⟩ := DataW.trod_int Try.underlying3 f5
 obtain ⟨i6, e6, _, w6⟩ := DataW.trod_int Try.underlying3 f6
 obtain ⟨i7, e7, _, w7⟩ := DataW.trod_int Try.underlying3 f7
 obtain ⟨i9, e9, _, w9⟩ := DataW.trod_int Try.underlying3 f9
 cases e0
 cases e1
 cases e2
 cases e3
 cases e4
 cases e5
 cases e6
 cases e7
 cases e9
 obtain ⟨ls, l1, l2, l3⟩ := open_rows Try.underlying22 2 cEnt (by omega) entC (fun _ => rfl) _ open_ent f8
 obtain ⟨ys, y1, y2⟩ := open_numsF f10
 obtain ⟨ns, n1, n2⟩ := open_numsF f11
 obtain ⟨ms, m1, m2⟩ := open_numsF f12
 exact ⟨⟨i0, i1, i2, i3, i4, i5, i6, i7, ls, i9, ys, ns, ms⟩, ⟨a8, a10, a11, a12, rfl, l1, y1, n1, m1⟩, ⟨l2, fun x hx => (l3 x hx).1, y2, n2, m2⟩, ⟨bounds_i64 w0, bounds_i64 w1, bounds_i64 w2, bounds_i64 w6, bounds_i64 w9⟩⟩
end
end Go.Proofs.Ytlhoonohpfpkbaa
namespace Go.Proofs.Ytlhoonohpfpkbaa
open Go.RowKit Go.PlainAid
theorem flat_parts (sz : Nat) (rows : List (List Value)) (hs : ∀ r ∈ rows, r.length = sz) (k : Nat) (hk : k < rows.length) :
  ∃ F1 F2 : List Value, F1.length = k * sz ∧ rows.flatten = F1 ++ (rows[k] ++ F2) ∧ ∀ r, (rows.set k r).flatten = F1 ++ (r ++ F2) := by
 refine ⟨(rows.take k).flatten, (rows.drop (k + 1)).flatten, ?_, ?_, ?_⟩
 ·rw [flat_length sz _ (fun r hr => hs r (List.mem_of_mem_take hr)), List.length_take, Nat.min_eq_left (by omega)]
 ·conv => lhs; rw [← List.take_append_drop k rows, List.drop_eq_getElem_cons hk]
  rw [List.flatten_append, List.flatten_cons]
 ·intro r
  rw [List.set_eq_take_append_cons_drop, if_pos hk, List.flatten_append, List.flatten_cons]
theorem set_len {rows : List (List Value)} {sz k : Nat} {r : List Value} (hs : ∀ r ∈ rows, r.length = sz) (hr : r.length = sz) : ∀ x ∈ rows.set k r, x.length = sz := by
 intro x hx
 rcases List.mem_or_eq_of_mem_set hx with h | rfl
 ·exact hs x h
 ·exact hr
section
variable {w : World} {base : Nat} {e : TypeId} {sz g cap : Nat} {rows : List (List Value)}
theorem Owns.cellX (h : Owns w base e sz (.slice (some ⟨g, 0, none⟩) rows.length cap) rows) (k f : Nat) (hk : k < rows.length) (hf : f < sz) : ∃ y, w.cell? ⟨g, k * sz + f, none⟩ = some y := by
 have hlt : k * sz + f < rows.length * sz := by
  have : (k + 1) * sz ≤ rows.length * sz := Nat.mul_le_mul_right sz hk
  rw [Nat.succ_mul] at this
  omega
 rw [World.ownsRow.cellAt h.2 (k * sz + f) hlt]
 exact ⟨_, List.getElem?_eq_getElem (by rw [h.2.1]; exact hlt)⟩
theorem Owns.free (h : Owns w base e sz (.slice (some ⟨g, 0, none⟩) rows.length cap) rows) (j : Nat) : w.frozen? ⟨g, j, none⟩ = false := World.ownsRow.frozenAt h.2 j
theorem Owns.put2 (h : Owns w base e 2 (.slice (some ⟨g, 0, none⟩) rows.length cap) rows) (k : Nat) (hk : k < rows.length) (a b : Value) :
  Owns ((w.setCell ⟨g, k * 2, none⟩ a).setCell ⟨g, k * 2 + 1, none⟩ b) base e 2 (.slice (some ⟨g, 0, none⟩) rows.length cap) (rows.set k [a, b]) := by
 have h1 := (World.ownsRow.stored h.2 (k * 2) a).1
 have h2 := (World.ownsRow.stored h1 (k * 2 + 1) b).1
 refine ⟨set_len h.1 rfl, ?_⟩
 rw [List.length_set]
 obtain ⟨F1, F2, l1, e1, e2⟩ := flat_parts 2 rows h.1 k hk
 have hr := h.1 rows[k] (List.getElem_mem hk)
 obtain ⟨x, y, hxy⟩ : ∃ x y, rows[k] = [x, y] := by
  match hh : rows[k], hr with
  | [x, y], _ => exact ⟨x, y, rfl⟩
 rw [e2]
 rw [e1, hxy] at h2
 have : ((F1 ++ ([x, y] ++ F2)).set (k * 2) a).set (k * 2 + 1) b = F1 ++ ([a, b] ++ F2) := by
  rw [← l1, List.set_append_right _ _ (by omega), List.set_append_right _ _ (by omega)]
  simp
 rw [this] at h2
 exact h2
end
theorem set_self {R : List (List Value)} (j : Nat) (hj : j < R.length) : R.set j R[j] = R := List.set_getElem_self hj
section
variable {w : World} {base : Nat} {e : TypeId} {sz g cap n j : Nat} {R : List (List Value)} {r : List Value}
theorem Owns.pokeAt (h : Owns w base e sz (.slice (some ⟨g, 0, none⟩) n cap) (R.set j r)) (hn : R.length = n) (hj : j < n) (f : Nat) (hf : f < sz) (x : Value) :
  Owns (w.setCell ⟨g, j * sz + f, none⟩ x) base e sz (.slice (some ⟨g, 0, none⟩) n cap) (R.set j (r.set f x)) := by
 subst hn
 have hl : (R.set j r).length = R.length := List.length_set
 have h2 := h.2
 rw [hl] at h2
 have h1 := (World.ownsRow.stored h2 (j * sz + f) x).1
 obtain ⟨F1, F2, l1, e1, e2⟩ := flat_parts sz (R.set j r) h.1 j (by rw [hl]; exact hj)
 have hrr : (R.set j r)[j]'(by rw [hl]; exact hj) = r := by simp
 have hr : r.length = sz := by rw [← hrr]; exact h.1 _ (List.getElem_mem _)
 have e3 := e2 (r.set f x)
 rw [List.set_set] at e3
 refine ⟨?_, ?_⟩
 ·intro y hy
  obtain ⟨i, hi, rfl⟩ := List.getElem_of_mem hy
  have hi2 : i < R.length := by simpa using hi
  by_cases hij : i = j
  ·subst hij
   rw [List.getElem_set_self, List.length_set]
   exact hr
  ·have : (R.set j (r.set f x))[i]'hi = (R.set j r)[i]'(by rw [hl]; exact hi2) := by rw [List.getElem_set_ne (Ne.symm hij), List.getElem_set_ne (Ne.symm hij)]
   rw [this]
   exact h.1 _ (List.getElem_mem _)
 ·rw [List.length_set, e3]
  rw [e1, hrr] at h1
  have : (F1 ++ (r ++ F2)).set (j * sz + f) x = F1 ++ (r.set f x ++ F2) := by
   rw [← l1, List.set_append_right _ _ (by omega), List.set_append_left _ _ (by omega)]
   simp
  rw [this] at h1
  exact h1
theorem Owns.cellAt2 (h : Owns w base e sz (.slice (some ⟨g, 0, none⟩) n cap) (R.set j r)) (hn : R.length = n) (hj : j < n) (f : Nat) (hf : f < sz) : ∃ y, w.cell? ⟨g, j * sz + f, none⟩ = some y := by
 subst hn
 have hl : (R.set j r).length = R.length := List.length_set
 have h2 := h
 rw [← hl] at h2
 exact h2.cellX j f (by rw [hl]; exact hj) hf
theorem Owns.free2 (h : Owns w base e sz (.slice (some ⟨g, 0, none⟩) n cap) (R.set j r)) (hn : R.length = n) (k : Nat) : w.frozen? ⟨g, k, none⟩ = false := by
 subst hn
 have hl : (R.set j r).length = R.length := List.length_set
 have h2 := h
 rw [← hl] at h2
 exact h2.free k
end
def newR (f : Nat → List Value) (j : Nat) : List (List Value) := (List.range j).map f
theorem newR_length (f : Nat → List Value) (j : Nat) : (newR f j).length = j := by simp [newR]
def partR (f : Nat → List Value) (R : List (List Value)) (j : Nat) : List (List Value) := newR f j ++ R.drop j
theorem partR_zero (f : Nat → List Value) (R : List (List Value)) : partR f R 0 = R := by simp [partR, newR]
theorem partR_all (f : Nat → List Value) (R : List (List Value)) : partR f R R.length = newR f R.length := by simp [partR]
theorem partR_length (f : Nat → List Value) (R : List (List Value)) (j : Nat) (h : j ≤ R.length) : (partR f R j).length = R.length := by
 simp [partR, newR]
 omega
theorem partR_set (f : Nat → List Value) (R : List (List Value)) (j : Nat) (h : j < R.length) : (partR f R j).set j (f j) = partR f R (j + 1) := by
 unfold partR
 rw [List.set_append_right _ _ (by rw [newR_length]; omega), newR_length, Nat.sub_self, List.drop_eq_getElem_cons h, List.set_cons_zero]
 unfold newR
 rw [List.range_succ, List.map_append]
 simp
theorem fill_step (Z : List Value) (done : List (List Value)) (r : List Value) (n k : Nat) (hk : done.length = k) (hn : k < n) :
  (done ++ List.replicate (n - k) Z).set k r = (done ++ [r]) ++ List.replicate (n - (k + 1)) Z := by
 obtain ⟨m, rfl⟩ : ∃ m, n = k + 1 + m := ⟨n - (k + 1), by omega⟩
 rw [show k + 1 + m - k = m + 1 by omega, show k + 1 + m - (k + 1) = m by omega, List.set_append_right _ _ (by omega), hk, Nat.sub_self, List.replicate_succ, List.set_cons_zero]
 simp
end Go.Proofs.Ytlhoonohpfpkbaa
namespace Go.Proofs.Ytlhoonohpfpkbaa
open Go.ChangeShapes Go.WideShapes Go.ChangeAt Go.RowKit Go.PlainAid
set_option linter.unusedVariables false
def blkF (v : Value) : Option Nat := match v with
 | .slice (some a) (_ + 1) _ => some a.block
 | _ => none
theorem blkF_own {v : Value} {g : Nat} (h : blkF v = some g) : v.ownBlock = some g := by
 unfold blkF at h
 split at h
 ·simpa [Value.ownBlock] using h
 ·cases h
def OwnF (w : World) (base : Nat) (v : Value) (R : List (List Value)) : Prop :=
 (R = [] ∧ ∃ A c, v = .slice A 0 c ∧ (A = none → c = 0)) ∨ (0 < R.length ∧ ∃ g n0 c0 d c R0, Owns w base 71 2 (.slice (some ⟨g, 0, none⟩) n0 c0) R0 ∧ n0 = R0.length ∧ d + R.length = n0 ∧ v = .slice (some ⟨g, d * 2, none⟩) R.length c ∧ R.length ≤ c ∧ R = R0.drop d)
theorem Owns.toF {w : World} {base : Nat} {v : Value} {R : List (List Value)} (h : Owns w base 71 2 v R) : OwnF w base v R := by
 by_cases h0 : R.length = 0
 ·obtain rfl := List.eq_nil_of_length_eq_zero h0
  left
  rcases h.2.2 with ⟨rfl, _⟩ | ⟨g, cap, cur, rfl, _⟩
  ·exact ⟨rfl, _, _, rfl, fun _ => rfl⟩
  ·exact ⟨rfl, _, _, rfl, fun e => by cases e⟩
 ·right
  have hh := h
  rcases h.2.2 with ⟨rfl, e⟩ | ⟨g, cap, cur, rfl, _, _, hc, _⟩
  ·exact absurd e h0
  ·exact ⟨by omega, g, R.length, cap, 0, cap, R, hh, rfl, by omega, by simp, hc, rfl⟩
theorem OwnF.kept {w w' : World} {base : Nat} {v : Value} {R : List (List Value)} (h : OwnF w base v R) (hk : ∀ g, g < w.heap.size → blkF v = some g → w'.heap[g]? = w.heap[g]?) : OwnF w' base v R := by
 rcases h with h | ⟨h0, g, n0, c0, d, c, R0, h1, h2, h3, rfl, h5, h6⟩
 ·exact .inl h
 ·refine .inr ⟨h0, g, n0, c0, d, c, R0, h1.kept fun g' hg' e => hk g' hg' ?_, h2, h3, rfl, h5, h6⟩
  obtain ⟨k, hk'⟩ : ∃ k, R.length = k + 1 := ⟨R.length - 1, by omega⟩
  rw [hk']
  simpa [blkF, Value.ownBlock] using e
theorem OwnF.on {w w' : World} {base : Nat} {v : Value} {R : List (List Value)} (h : OwnF w base v R) (hb : Below w.heap.size w w') : OwnF w' base v R := h.kept fun g hg _ => hb.block g hg
theorem OwnF.mono {w : World} {base base' : Nat} {v : Value} {R : List (List Value)} (h : OwnF w base v R) (hb : base' ≤ base) : OwnF w base' v R := by
 rcases h with h | ⟨h0, g, n0, c0, d, c, R0, h1, r⟩
 ·exact .inl h
 ·exact .inr ⟨h0, g, n0, c0, d, c, R0, h1.mono hb, r⟩
theorem OwnF.lt {w : World} {base : Nat} {v : Value} {R : List (List Value)} (h : OwnF w base v R) : ∀ k, blkF v = some k → base ≤ k ∧ k < w.heap.size := by
 rcases h with ⟨_, A, c, rfl, _⟩ | ⟨h0, g, n0, c0, d, c, R0, h1, h2, h3, rfl, h5, h6⟩
 ·intro k hk
  cases A <;> cases hk
 ·intro k hk
  have := blkF_own hk
  exact h1.lt k (by simpa [Value.ownBlock] using this)
theorem OwnF.lies {w : World} {base : Nat} {v : Value} {R : List (List Value)} (h : OwnF w base v R) : Lies w w.heap.size 2 v R := by
 rcases h with ⟨rfl, A, c, rfl, hA⟩ | ⟨h0, g, n0, c0, d, c, R0, h1, h2, h3, rfl, h5, h6⟩
 ·exact ⟨A, c, rfl, ⟨hA, Nat.zero_le _⟩, fun r hr => (by cases hr), .inl rfl⟩
 ·have hs := h1.1
  have hl := h1.lies
  obtain ⟨A, cap, e, hz, _, hc⟩ := hl
  cases e
  refine ⟨_, c, rfl, ⟨fun e => (by cases e), h5⟩, fun r hr => hs r (by rw [h6] at hr; exact List.mem_of_mem_drop hr), .inr ⟨g, d * 2, rfl, (h1.lt g rfl).2, fun k x hx => ?_⟩⟩
  rcases hc with hc | ⟨g', off, e, _, hc⟩
  ·omega
  ·cases e
   have hf : R0.flatten[d * 2 + k]? = some x := by
    rw [← List.take_append_drop d R0, List.flatten_append, List.getElem?_append_right]
    ·rw [flat_length 2 _ (fun r hr => hs r (List.mem_of_mem_take hr)), List.length_take, show min d R0.length = d by omega, Nat.add_sub_cancel_left, ← h6]
     exact hx
    ·rw [flat_length 2 _ (fun r hr => hs r (List.mem_of_mem_take hr)), List.length_take]
     omega
   have := hc _ x hf
   rw [Nat.zero_add] at this
   exact this
theorem OwnF.shape {w : World} {base : Nat} {v : Value} {R : List (List Value)} (h : OwnF w base v R) : ∃ A c, v = .slice A R.length c := by
 rcases h with ⟨rfl, A, c, rfl, hA⟩ | ⟨h0, g, n0, c0, d, c, R0, h1, h2, h3, rfl, h5, h6⟩
 ·exact ⟨A, c, rfl⟩
 ·exact ⟨_, c, rfl⟩
theorem OwnF.notBlk {w : World} {base : Nat} {v : Value} {R : List (List Value)} (h : OwnF w base v R) {g : Nat} {cs : Array Value} {t : TypeId} {fz : Nat × Nat} (hB : w.heap[g]? = some (.cells cs t fz)) (ht : t ≠ 71) : blkF v ≠ some g := by
 rcases h with ⟨_, A, c, rfl, _⟩ | ⟨h0, g', n0, c0, d, c, R0, h1, h2, h3, rfl, h5, h6⟩
 ·intro hk
  cases A <;> cases hk
 ·intro hk
  have hk := blkF_own hk
  simp only [Value.ownBlock, Option.some.injEq] at hk
  subst hk
  rcases h1.2.2 with ⟨e, _⟩ | ⟨g1, c1, cur1, e, _, k1, _⟩
  ·cases e
  ·cases e
   rw [k1] at hB
   cases hB
   exact ht rfl
theorem Nums.kind {w : World} {base : Nat} {v : Value} {l : List Int} (h : Nums w base v l) {g : Nat} (hg : v.ownBlock = some g) : ∃ cs fz, w.heap[g]? = some (.cells cs 3 fz) := by
 obtain ⟨c, fz, e⟩ := Lib.ownsRow_kind h g hg
 exact ⟨c, fz, e⟩
theorem Nums.notBlk {w : World} {base : Nat} {v : Value} {l : List Int} (h : Nums w base v l) {g : Nat} {cs : Array Value} {t : TypeId} {fz : Nat × Nat} (hB : w.heap[g]? = some (.cells cs t fz)) (ht : t ≠ 3) : v.ownBlock ≠ some g := fun e => by
 obtain ⟨c, fz', e'⟩ := h.kind e
 rw [e'] at hB
 cases hB
 exact ht rfl
def Apart (u v : Value) : Prop := ∀ g, u.ownBlock = some g → v.ownBlock ≠ some g
theorem Apart.symm {u v : Value} (h : Apart u v) : Apart v u := fun g h1 h2 => h g h2 h1
theorem Nums.apart {w w' : World} {b b' : Nat} {u v : Value} {l m : List Int} (h : Nums w b u l) (h' : Nums w' b' v m) (hb : w.heap.size ≤ b') : Apart u v := fun g h1 h2 => by
 have := (h.lt g h1).2
 have := (h'.lt g h2).1
 omega
structure CoRows (w : World) (base : Nat) (x : Cor) (ul uy un um : Value) : Prop where
 l : OwnF w base ul (entR x.log)
 y : Nums w base uy x.yes
 n : Nums w base un x.nxt
 m : Nums w base um x.mat
 yn : Apart uy un
 ym : Apart uy um
 nm : Apart un um
def CorO (w : World) (base : Nat) (v : Value) (x : Cor) : Prop := ∃ ul uy un um, v = vCo x ul uy un um ∧ CoRows w base x ul uy un um
theorem CoRows.on {w w' : World} {base : Nat} {x : Cor} {ul uy un um : Value} (h : CoRows w base x ul uy un um) (hb : Below w.heap.size w w') : CoRows w' base x ul uy un um := ⟨h.l.on hb, h.y.on hb, h.n.on hb, h.m.on hb, h.yn, h.ym, h.nm⟩
theorem CoRows.mono {w : World} {base base' : Nat} {x : Cor} {ul uy un um : Value} (h : CoRows w base x ul uy un um) (hb : base' ≤ base) : CoRows w base' x ul uy un um := ⟨h.l.mono hb, h.y.mono hb, h.n.mono hb, h.m.mono hb, h.yn, h.ym, h.nm⟩
theorem CoRows.lies {w : World} {base : Nat} {x : Cor} {ul uy un um : Value} (h : CoRows w base x ul uy un um) : CorV w w.heap.size (vCo x ul uy un um) x := ⟨ul, uy, un, um, rfl, h.l.lies, h.y.lies, h.n.lies, h.m.lies⟩
structure NotC (ul uy un um : Value) (g : Nat) : Prop where
 l : blkF ul ≠ some g
 y : uy.ownBlock ≠ some g
 n : un.ownBlock ≠ some g
 m : um.ownBlock ≠ some g
theorem CoRows.kept {w w' : World} {base : Nat} {x : Cor} {ul uy un um : Value} (h : CoRows w base x ul uy un um) (hk : ∀ g, g < w.heap.size → base ≤ g → w'.heap[g]? = w.heap[g]?) : CoRows w' base x ul uy un um :=
 ⟨h.l.kept fun g hg e => hk g hg (h.l.lt g e).1, h.y.kept fun g hg e => hk g hg (h.y.lt g e).1, h.n.kept fun g hg e => hk g hg (h.n.lt g e).1, h.m.kept fun g hg e => hk g hg (h.m.lt g e).1, h.yn, h.ym, h.nm⟩
theorem CoRows.notBlk {w : World} {base : Nat} {x : Cor} {ul uy un um : Value} (h : CoRows w base x ul uy un um) {g : Nat} {cs : Array Value} {t : TypeId} {fz : Nat × Nat} (hB : w.heap[g]? = some (.cells cs t fz)) (ht : t ≠ 71) (h3 : t ≠ 3) : NotC ul uy un um g := ⟨h.l.notBlk hB ht, h.y.notBlk hB h3, h.n.notBlk hB h3, h.m.notBlk hB h3⟩
theorem CoRows.notNew {w : World} {base : Nat} {x : Cor} {ul uy un um : Value} (h : CoRows w base x ul uy un um) {g : Nat} (hg : w.heap.size ≤ g) : NotC ul uy un um g := ⟨fun e => by have := (h.l.lt g e).2; omega, fun e => by have := (h.y.lt g e).2; omega, fun e => by have := (h.n.lt g e).2; omega, fun e => by have := (h.m.lt g e).2; omega⟩
theorem CoRows.shape {w : World} {base : Nat} {x : Cor} {ul uy un um : Value} (h : CoRows w base x ul uy un um) : ∃ A0 c0 A1 c1 A2 c2 A3 c3, ul = .slice A0 x.log.length c0 ∧ uy = .slice A1 x.yes.length c1 ∧ un = .slice A2 x.nxt.length c2 ∧ um = .slice A3 x.mat.length c3 := by
 obtain ⟨A0, c0, e0⟩ := h.l.shape
 rw [entR_length] at e0
 obtain ⟨A1, c1, e1, _⟩ := h.y.shape
 obtain ⟨A2, c2, e2, _⟩ := h.n.shape
 obtain ⟨A3, c3, e3, _⟩ := h.m.shape
 exact ⟨A0, c0, A1, c1, A2, c2, A3, c3, e0, e1, e2, e3⟩
theorem CorO.sh {w : World} {base : Nat} {v : Value} {x : Cor} (h : CorO w base v x) : ∃ D0 p0 d0 D1 p1 d1 D2 p2 d2 D3 p3 d3, v = vCo x (.slice D0 p0 d0) (.slice D1 p1 d1) (.slice D2 p2 d2) (.slice D3 p3 d3) ∧ CoRows w base x (.slice D0 p0 d0) (.slice D1 p1 d1) (.slice D2 p2 d2) (.slice D3 p3 d3) := by
 obtain ⟨ul, uy, un, um, rfl, h⟩ := h
 obtain ⟨A0, c0, A1, c1, A2, c2, A3, c3, rfl, rfl, rfl, rfl⟩ := h.shape
 exact ⟨A0, _, c0, A1, _, c1, A2, _, c2, A3, _, c3, rfl, h⟩
theorem CorV.sh {w : World} {B : Nat} {v : Value} {x : Cor} (h : CorV w B v x) : ∃ D0 p0 d0 D1 p1 d1 D2 p2 d2 D3 p3 d3, v = vCo x (.slice D0 p0 d0) (.slice D1 p1 d1) (.slice D2 p2 d2) (.slice D3 p3 d3) ∧ CorV w B (vCo x (.slice D0 p0 d0) (.slice D1 p1 d1) (.slice D2 p2 d2) (.slice D3 p3 d3)) x := by
 have h' := h
 obtain ⟨ul, uy, un, um, rfl, h1, h2, h3, h4⟩ := h
 obtain ⟨A0, c0, rfl, _⟩ := ent_look h1
 obtain ⟨A1, c1, rfl, _⟩ := h2
 obtain ⟨A2, c2, rfl, _⟩ := h3
 obtain ⟨A3, c3, rfl, _⟩ := h4
 exact ⟨A0, _, c0, A1, _, c1, A2, _, c2, A3, _, c3, rfl, h'⟩
theorem CorO.lies {w : World} {base : Nat} {v : Value} {x : Cor} (h : CorO w base v x) : CorV w w.heap.size v x := by
 obtain ⟨ul, uy, un, um, rfl, h⟩ := h
 exact h.lies
theorem CorO.on {w w' : World} {base : Nat} {v : Value} {x : Cor} (h : CorO w base v x) (hb : Below w.heap.size w w') : CorO w' base v x := by
 obtain ⟨ul, uy, un, um, e, h⟩ := h
 exact ⟨ul, uy, un, um, e, h.on hb⟩
theorem CorO.mono {w : World} {base base' : Nat} {v : Value} {x : Cor} (h : CorO w base v x) (hb : base' ≤ base) : CorO w base' v x := by
 obtain ⟨ul, uy, un, um, e, h⟩ := h
 exact ⟨ul, uy, un, um, e, h.mono hb⟩
end Go.Proofs.Ytlhoonohpfpkbaa
namespace Go.Proofs.Ytlhoonohpfpkbaa
open Go.ChangeShapes Go.WideShapes Go.ChangeAt Go.RowKit Go.PlainAid
set_option linter.unusedVariables false
theorem resC13 {w : World} {g : Nat} {a0 a1 a2 a3 a4 a5 a6 a7 a8 a9 a10 a11 a12 x0 x1 x2 x3 x4 x5 x6 x7 x8 x9 x10 x11 x12 : Value} {t : TypeId} (h : Blk w g #[a0, a1, a2, a3, a4, a5, a6, a7, a8, a9, a10, a11, a12] t) :
  (w.cell? ⟨g, 0, none⟩ = some a0 ∧ w.frozen? ⟨g, 0, none⟩ = false) ∧ ((w.setCell ⟨g, 0, none⟩ x0).cell? ⟨g, 1, none⟩ = some a1 ∧ (w.setCell ⟨g, 0, none⟩ x0).frozen? ⟨g, 1, none⟩ = false) ∧ (((w.setCell ⟨g, 0, none⟩ x0).setCell ⟨g, 1, none⟩ x1).cell? ⟨g, 2, none⟩ = some a2 ∧ ((w.setCell ⟨g, 0, none⟩ x0).setCell ⟨g, 1, none⟩ x1).frozen? ⟨g, 2, none⟩ = false) ∧ ((((w.setCell ⟨g, 0, none⟩ x0).setCell ⟨g, 1, none⟩ x1).setCell ⟨g, 2, none⟩ x2).cell? ⟨g, 3, none⟩ = some a3 ∧ (((w.setCell ⟨g, 0, none⟩ x0).setCell ⟨g, 1, none⟩ x1).setCell ⟨g, 2, none⟩ x2).frozen? ⟨g, 3, none⟩ = false) ∧ (((((w.setCell ⟨g, 0, none⟩ x0).setCell ⟨g, 1, none⟩ x1).setCell ⟨g, 2, none⟩ x2).setCell ⟨g, 3, none⟩ x3).cell? ⟨g, 4, none⟩ = some a4 ∧ ((((w.setCell ⟨g, 0, none⟩ x0).setCell ⟨g, 1, none⟩ x1).setCell ⟨g, 2, none⟩ x2).setCell ⟨g, 3, none⟩ x3).frozen? ⟨g, 4, none⟩ = false) ∧ ((((((w.setCell ⟨g, 0, none⟩ x0).setCell ⟨g, 1, none⟩ x1).setCell ⟨g, 2, none⟩ x2).setCell ⟨g, 3, none⟩ x3).setCell ⟨g, 4, none⟩ x4).cell? ⟨g, 5, none⟩ = some a5 ∧ (((((w.setCell ⟨g, 0, none⟩ x0).setCell ⟨g, 1, none⟩ x1).setCell ⟨g, 2, none⟩ x2).setCell ⟨g, 3, none⟩ x3).setCell ⟨g, 4, none⟩ x4).frozen? ⟨g, 5, none⟩ = false) ∧ (((((((w.setCell ⟨g, 0, none⟩ x0).setCell ⟨g, 1, none⟩ x1).setCell ⟨g, 2, none⟩ x2).setCell ⟨g, 3, none⟩ x3).setCell ⟨g, 4, none⟩ x4).setCell ⟨g, 5, none⟩ x5).cell? ⟨g, 6, none⟩ = some a6 ∧ ((((((w.setCell ⟨g, 0, none⟩ x0).setCell ⟨g, 1, none⟩ x1).setCell ⟨g, 2, none⟩ x2).setCell ⟨g, 3, none⟩ x3).setCell ⟨g, 4, none⟩ x4).setCell ⟨g, 5, none⟩ x5).frozen? ⟨g, 6, none⟩ = false) ∧ ((((((((w.setCell ⟨g, 0, none⟩ x0).setCell ⟨g, 1, none⟩ x1).setCell ⟨g, 2, none⟩ x2).setCell ⟨g, 3, none⟩ x3).setCell ⟨g, 4, none⟩ x4).setCell ⟨g, 5, none⟩ x5).setCell ⟨g, 6, none⟩ x6).cell? ⟨g, 7, none⟩ = some a7 ∧ (((((((w.setCell ⟨g, 0, none⟩ x0).setCell ⟨g, 1, none⟩ x1).setCell ⟨g, 2, none⟩ x2).setCell ⟨g, 3, none⟩ x3).setCell ⟨g, 4, none⟩ x4).setCell ⟨g, 5, none⟩ x5).setCell ⟨g, 6, none⟩ x6).frozen? ⟨g, 7, none⟩ = false) ∧ (((((((((w.setCell ⟨g, 0, none⟩ x0).setCell ⟨g, 1, none⟩ x1).setCell ⟨g, 2, none⟩ x2).setCell ⟨g, 3, none⟩ x3).setCell ⟨g, 4, none⟩ x4).setCell ⟨g, 5, none⟩ x5).setCell ⟨g, 6, none⟩ x6).setCell ⟨g, 7, none⟩ x7).cell? ⟨g, 8, none⟩ = some a8 ∧ ((((((((w.setCell ⟨g, 0, none⟩ x0).setCell ⟨g, 1, none⟩ x1).setCell ⟨g, 2, none⟩ x2).setCell ⟨g, 3, none⟩ x3).setCell ⟨g, 4, none⟩ x4).setCell ⟨g, 5, none⟩ x5).setCell ⟨g, 6, none⟩ x6).setCell ⟨g, 7, none⟩ x7).frozen? ⟨g, 8, none⟩ = false) ∧ ((((((((((w.setCell ⟨g, 0, none⟩ x0).setCell ⟨g, 1, none⟩ x1).setCell ⟨g, 2, none⟩ x2).setCell ⟨g, 3, none⟩ x3).setCell ⟨g, 4, none⟩ x4).setCell ⟨g, 5, none⟩ x5).setCell ⟨g, 6, none⟩ x6).setCell ⟨g, 7, none⟩ x7).setCell ⟨g, 8, none⟩ x8).cell? ⟨g, 9, none⟩ = some a9 ∧ (((((((((w.setCell ⟨g, 0, none⟩ x0).setCell ⟨g, 1, none⟩ x1).setCell ⟨g, 2, none⟩ x2).setCell ⟨g, 3, none⟩ x3).setCell ⟨g, 4, none⟩ x4).setCell ⟨g, 5, none⟩ x5).setCell ⟨g, 6, none⟩ x6).setCell ⟨g, 7, none⟩ x7).setCell ⟨g, 8, none⟩ x8).frozen? ⟨g, 9, none⟩ = false) ∧ (((((((((((w.setCell ⟨g, 0, none⟩ x0).setCell ⟨g, 1, none⟩ x1).setCell ⟨g, 2, none⟩ x2).setCell ⟨g, 3, none⟩ x3).setCell ⟨g, 4, none⟩ x4).setCell ⟨g, 5, none⟩ x5).setCell ⟨g, 6, none⟩ x6).setCell ⟨g, 7, none⟩ x7).setCell ⟨g, 8, none⟩ x8).setCell ⟨g, 9, none⟩ x9).cell? ⟨g, 10, none⟩ = some a10 ∧ ((((((((((w.setCell ⟨g, 0, none⟩ x0).setCell ⟨g, 1, none⟩ x1).setCell ⟨g, 2, none⟩ x2).setCell ⟨g, 3, none⟩ x3).setCell ⟨g, 4, none⟩ x4).setCell ⟨g, 5, none⟩ x5).setCell ⟨g, 6, none⟩ x6).setCell ⟨g, 7, none⟩ x7).setCell ⟨g, 8, none⟩ x8).setCell ⟨g, 9, none⟩ x9).frozen? ⟨g, 10, none⟩ = false) ∧ ((((((((((((w.setCell ⟨g, 0, none⟩ x0).setCell ⟨g, 1, none⟩ x1).setCell ⟨g, 2, none⟩ x2).setCell ⟨g, 3, none⟩ x3).setCell ⟨g, 4, none⟩ x4).setCell ⟨g, 5, none⟩ x5).setCell ⟨g, 6, none⟩ x6).setCell ⟨g, 7, none⟩ x7).setCell ⟨g, 8, none⟩ x8).setCell ⟨g, 9, none⟩ x9).setCell ⟨g, 10, none⟩ x10).cell? ⟨g, 11, none⟩ = some a11 ∧ (((((((((((w.setCell ⟨g, 0, none⟩ x0).setCell ⟨g, 1, none⟩ x1).setCell ⟨g, 2, none⟩ x2).setCell ⟨g, 3, none⟩ x3).setCell ⟨g, 4, none⟩ x4).setCell ⟨g, 5, none⟩ x5).setCell ⟨g, 6, none⟩ x6).setCell ⟨g, 7, none⟩ x7).setCell ⟨g, 8, none⟩ x8).setCell ⟨g, 9, none⟩ x9).setCell ⟨g, 10, none⟩ x10).frozen? ⟨g, 11, none⟩ = false) ∧ (((((((((((((w.setCell ⟨g, 0, none⟩ x0).setCell ⟨g, 1, none⟩ x1).setCell ⟨g, 2, none⟩ x2).setCell ⟨g, 3, none⟩ x3).setCell ⟨g, 4, none⟩ x4).setCell ⟨g, 5, none⟩ x5).setCell ⟨g, 6, none⟩ x6).setCell ⟨g, 7, none⟩ x7).setCell ⟨g, 8, none⟩ x8).setCell ⟨g, 9, none⟩ x9).setCell ⟨g, 10, none⟩ x10).setCell ⟨g, 11, none⟩ x11).cell? ⟨g, 12, none⟩ = some a12 ∧ ((((((((((((w.setCell ⟨g, 0, none⟩ x0).setCell ⟨g, 1, none⟩ x1).setCell ⟨g, 2, none⟩ x2).setCell ⟨g, 3, none⟩ x3).setCell ⟨g, 4, none⟩ x4).setCell ⟨g, 5, none⟩ x5).setCell ⟨g, 6, none⟩ x6).setCell ⟨g, 7, none⟩ x7).setCell ⟨g, 8, none⟩ x8).setCell ⟨g, 9, none⟩ x9).setCell ⟨g, 10, none⟩ x10).setCell ⟨g, 11, none⟩ x11).frozen? ⟨g, 12, none⟩ = false) ∧
  (((((((((((((w.setCell ⟨g, 0, none⟩ x0).setCell ⟨g, 1, none⟩ x1).setCell ⟨g, 2, none⟩ x2).setCell ⟨g, 3, none⟩ x3).setCell ⟨g, 4, none⟩ x4).setCell ⟨g, 5, none⟩ x5).setCell ⟨g, 6, none⟩ x6).setCell ⟨g, 7, none⟩ x7).setCell ⟨g, 8, none⟩ x8).setCell ⟨g, 9, none⟩ x9).setCell ⟨g, 10, none⟩ x10).setCell ⟨g, 11, none⟩ x11).setCell ⟨g, 12, none⟩ x12).cell? ⟨g, 0, none⟩ = some x0 ∧ (((((((((((((w.setCell ⟨g, 0, none⟩ x0).setCell ⟨g, 1, none⟩ x1).setCell ⟨g, 2, none⟩ x2).setCell ⟨g, 3, none⟩ x3).setCell ⟨g, 4, none⟩ x4).setCell ⟨g, 5, none⟩ x5).setCell ⟨g, 6, none⟩ x6).setCell ⟨g, 7, none⟩ x7).setCell ⟨g, 8, none⟩ x8).setCell ⟨g, 9, none⟩ x9).setCell ⟨g, 10, none⟩ x10).setCell ⟨g, 11, none⟩ x11).setCell ⟨g, 12, none⟩ x12).cell? ⟨g, 1, none⟩ = some x1 ∧ (((((((((((((w.setCell ⟨g, 0, none⟩ x0).setCell ⟨g, 1, none⟩ x1).setCell ⟨g, 2, none⟩ x2).setCell ⟨g, 3, none⟩ x3).setCell ⟨g, 4, none⟩ x4).setCell ⟨g, 5, none⟩ x5).setCell ⟨g, 6, none⟩ x6).setCell ⟨g, 7, none⟩ x7).setCell ⟨g, 8, none⟩ x8).setCell ⟨g, 9, none⟩ x9).setCell ⟨g, 10, none⟩ x10).setCell ⟨g, 11, none⟩ x11).setCell ⟨g, 12, none⟩ x12).cell? ⟨g, 2, none⟩ = some x2 ∧ (((((((((((((w.setCell ⟨g, 0, none⟩ x0).setCell ⟨g, 1, none⟩ x1).setCell ⟨g, 2, none⟩ x2).setCell ⟨g, 3, none⟩ x3).setCell ⟨g, 4, none⟩ x4).setCell ⟨g, 5, none⟩ x5).setCell ⟨g, 6, none⟩ x6).setCell ⟨g, 7, none⟩ x7).setCell ⟨g, 8, none⟩ x8).setCell ⟨g, 9, none⟩ x9).setCell ⟨g, 10, none⟩ x10).setCell ⟨g, 11, none⟩ x11).setCell ⟨g, 12, none⟩ x12).cell? ⟨g, 3, none⟩ = some x3 ∧ (((((((((((((w.setCell ⟨g, 0, none⟩ x0).setCell ⟨g, 1, none⟩ x1).setCell ⟨g, 2, none⟩ x2).setCell ⟨g, 3, none⟩ x3).setCell ⟨g, 4, none⟩ x4).setCell ⟨g, 5, none⟩ x5).setCell ⟨g, 6, none⟩ x6).setCell ⟨g, 7, none⟩ x7).setCell ⟨g, 8, none⟩ x8).setCell ⟨g, 9, none⟩ x9).setCell ⟨g, 10, none⟩ x10).setCell ⟨g, 11, none⟩ x11).setCell ⟨g, 12, none⟩ x12).cell? ⟨g, 4, none⟩ = some x4 ∧ (((((((((((((w.setCell ⟨g, 0, none⟩ x0).setCell ⟨g, 1, none⟩ x1).setCell ⟨g, 2, none⟩ x2).setCell ⟨g, 3, none⟩ x3).setCell ⟨g, 4, none⟩ x4).setCell ⟨g, 5, none⟩ x5).setCell ⟨g, 6, none⟩ x6).setCell ⟨g, 7, none⟩ x7).setCell ⟨g, 8, none⟩ x8).setCell ⟨g, 9, none⟩ x9).setCell ⟨g, 10, none⟩ x10).setCell ⟨g, 11, none⟩ x11).setCell ⟨g, 12, none⟩ x12).cell? ⟨g, 5, none⟩ = some x5 ∧ (((((((((((((w.setCell ⟨g, 0, none⟩ x0).setCell ⟨g, 1, none⟩ x1).setCell ⟨g, 2, none⟩ x2).setCell ⟨g, 3, none⟩ x3).setCell ⟨g, 4, none⟩ x4).setCell ⟨g, 5, none⟩ x5).setCell ⟨g, 6, none⟩ x6).setCell ⟨g, 7, none⟩ x7).setCell ⟨g, 8, none⟩ x8).setCell ⟨g, 9, none⟩ x9).setCell ⟨g, 10, none⟩ x10).setCell ⟨g, 11, none⟩ x11).setCell ⟨g, 12, none⟩ x12).cell? ⟨g, 6, none⟩ = some x6 ∧ (((((((((((((w.setCell ⟨g, 0, none⟩ x0).setCell ⟨g, 1, none⟩ x1).setCell ⟨g, 2, none⟩ x2).setCell ⟨g, 3, none⟩ x3).setCell ⟨g, 4, none⟩ x4).setCell ⟨g, 5, none⟩ x5).setCell ⟨g, 6, none⟩ x6).setCell ⟨g, 7, none⟩ x7).setCell ⟨g, 8, none⟩ x8).setCell ⟨g, 9, none⟩ x9).setCell ⟨g, 10, none⟩ x10).setCell ⟨g, 11, none⟩ x11).setCell ⟨g, 12, none⟩ x12).cell? ⟨g, 7, none⟩ = some x7 ∧ (((((((((((((w.setCell ⟨g, 0, none⟩ x0).setCell ⟨g, 1, none⟩ x1).setCell ⟨g, 2, none⟩ x2).setCell ⟨g, 3, none⟩ x3).setCell ⟨g, 4, none⟩ x4).setCell ⟨g, 5, none⟩ x5).setCell ⟨g, 6, none⟩ x6).setCell ⟨g, 7, none⟩ x7).setCell ⟨g, 8, none⟩ x8).setCell ⟨g, 9, none⟩ x9).setCell ⟨g, 10, none⟩ x10).setCell ⟨g, 11, none⟩ x11).setCell ⟨g, 12, none⟩ x12).cell? ⟨g, 8, none⟩ = some x8 ∧ (((((((((((((w.setCell ⟨g, 0, none⟩ x0).setCell ⟨g, 1, none⟩ x1).setCell ⟨g, 2, none⟩ x2).setCell ⟨g, 3, none⟩ x3).setCell ⟨g, 4, none⟩ x4).setCell ⟨g, 5, none⟩ x5).setCell ⟨g, 6, none⟩ x6).setCell ⟨g, 7, none⟩ x7).setCell ⟨g, 8, none⟩ x8).setCell ⟨g, 9, none⟩ x9).setCell ⟨g, 10, none⟩ x10).setCell ⟨g, 11, none⟩ x11).setCell ⟨g, 12, none⟩ x12).cell? ⟨g, 9, none⟩ = some x9 ∧ (((((((((((((w.setCell ⟨g, 0, none⟩ x0).setCell ⟨g, 1, none⟩ x1).setCell ⟨g, 2, none⟩ x2).setCell ⟨g, 3, none⟩ x3).setCell ⟨g, 4, none⟩ x4).setCell ⟨g, 5, none⟩ x5).setCell ⟨g, 6, none⟩ x6).setCell ⟨g, 7, none⟩ x7).setCell ⟨g, 8, none⟩ x8).setCell ⟨g, 9, none⟩ x9).setCell ⟨g, 10, none⟩ x10).setCell ⟨g, 11, none⟩ x11).setCell ⟨g, 12, none⟩ x12).cell? ⟨g, 10, none⟩ = some x10 ∧ (((((((((((((w.setCell ⟨g, 0, none⟩ x0).setCell ⟨g, 1, none⟩ x1).setCell ⟨g, 2, none⟩ x2).setCell ⟨g, 3, none⟩ x3).setCell ⟨g, 4, none⟩ x4).setCell ⟨g, 5, none⟩ x5).setCell ⟨g, 6, none⟩ x6).setCell ⟨g, 7, none⟩ x7).setCell ⟨g, 8, none⟩ x8).setCell ⟨g, 9, none⟩ x9).setCell ⟨g, 10, none⟩ x10).setCell ⟨g, 11, none⟩ x11).setCell ⟨g, 12, none⟩ x12).cell? ⟨g, 11, none⟩ = some x11 ∧ (((((((((((((w.setCell ⟨g, 0, none⟩ x0).setCell ⟨g, 1, none⟩ x1).setCell ⟨g, 2, none⟩ x2).setCell ⟨g, 3, none⟩ x3).setCell ⟨g, 4, none⟩ x4).setCell ⟨g, 5, none⟩ x5).setCell ⟨g, 6, none⟩ x6).setCell ⟨g, 7, none⟩ x7).setCell ⟨g, 8, none⟩ x8).setCell ⟨g, 9, none⟩ x9).setCell ⟨g, 10, none⟩ x10).setCell ⟨g, 11, none⟩ x11).setCell ⟨g, 12, none⟩ x12).cell? ⟨g, 12, none⟩ = some x12 := by
 have h1 : Blk (w.setCell ⟨g, 0, none⟩ x0) g #[x0, a1, a2, a3, a4, a5, a6, a7, a8, a9, a10, a11, a12] t := h.set 0 x0
 have h2 : Blk ((w.setCell ⟨g, 0, none⟩ x0).setCell ⟨g, 1, none⟩ x1) g #[x0, x1, a2, a3, a4, a5, a6, a7, a8, a9, a10, a11, a12] t := h1.set 1 x1
 have h3 : Blk (((w.setCell ⟨g, 0, none⟩ x0).setCell ⟨g, 1, none⟩ x1).setCell ⟨g, 2, none⟩ x2) g #[x0, x1, x2, a3, a4, a5, a6, a7, a8, a9, a10, a11, a12] t := h2.set 2 x2
 have h4 : Blk ((((w.setCell ⟨g, 0, none⟩ x0).setCell ⟨g, 1, none⟩ x1).setCell ⟨g, 2, none⟩ x2).setCell ⟨g, 3, none⟩ x3) g #[x0, x1, x2, x3, a4, a5, a6, a7, a8, a9, a10, a11, a12] t := h3.set 3 x3
 have h5 : Blk (((((w.setCell ⟨g, 0, none⟩ x0).setCell ⟨g, 1, none⟩ x1).setCell ⟨g, 2, none⟩ x2).setCell ⟨g, 3, none⟩ x3).setCell ⟨g, 4, none⟩ x4) g #[x0, x1, x2, x3, x4, a5, a6, a7, a8, a9, a10, a11, a12] t := h4.set 4 x4
 have h6 : Blk ((((((w.setCell ⟨g, 0, none⟩ x0).setCell ⟨g, 1, none⟩ x1).setCell ⟨g, 2, none⟩ x2).setCell ⟨g, 3, none⟩ x3).setCell ⟨g, 4, none⟩ x4).setCell ⟨g, 5, none⟩ x5) g #[x0, x1, x2, x3, x4, x5, a6, a7, a8, a9, a10, a11, a12] t := h5.set 5 x5
 have h7 : Blk (((((((w.setCell ⟨g, 0, none⟩ x0).setCell ⟨g, 1, none⟩ x1).setCell ⟨g, 2, none⟩ x2).setCell ⟨g, 3, none⟩ x3).setCell ⟨g, 4, none⟩ x4).setCell ⟨g, 5, none⟩ x5).setCell ⟨g, 6, none⟩ x6) g #[x0, x1, x2, x3, x4, x5, x6, a7, a8, a9, a10, a11, a12] t := h6.set 6 x6
 have h8 : Blk ((((((((w.setCell ⟨g, 0, none⟩ x0).setCell ⟨g, 1, none⟩ x1).setCell ⟨g, 2, none⟩ x2).setCell ⟨g, 3, none⟩ x3).setCell ⟨g, 4, none⟩ x4).setCell ⟨g, 5, none⟩ x5).setCell ⟨g, 6, none⟩ x6).setCell ⟨g, 7, none⟩ x7) g #[x0, x1, x2, x3, x4, x5, x6, x7, a8, a9, a10, a11, a12] t := h7.set 7 x7
 have h9 : Blk (((((((((w.setCell ⟨g, 0, none⟩ x0).setCell ⟨g, 1, none⟩ x1).setCell ⟨g, 2, none⟩ x2).setCell ⟨g, 3, none⟩ x3).setCell ⟨g, 4, none⟩ x4).setCell ⟨g, 5, none⟩ x5).setCell ⟨g, 6, none⟩ x6).setCell ⟨g, 7, none⟩ x7).setCell ⟨g, 8, none⟩ x8) g #[x0, x1, x2, x3, x4, x5, x6, x7, x8, a9, a10, a11, a12] t := h8.set 8 x8
 have h10 : Blk ((((((((((w.setCell ⟨g, 0, none⟩ x0).setCell ⟨g, 1, none⟩ x1).setCell ⟨g, 2, none⟩ x2).setCell ⟨g, 3, none⟩ x3).setCell ⟨g, 4, none⟩ x4).setCell ⟨g, 5, none⟩ x5).setCell ⟨g, 6, none⟩ x6).setCell ⟨g, 7, none⟩ x7).setCell ⟨g, 8, none⟩ x8).setCell ⟨g, 9, none⟩ x9) g #[x0, x1, x2, x3, x4, x5, x6, x7, x8, x9, a10, a11, a12] t := h9.set 9 x9
 have h11 : Blk (((((((((((w.setCell ⟨g, 0, none⟩ x0).setCell ⟨g, 1, none⟩ x1).setCell ⟨g, 2, none⟩ x2).setCell ⟨g, 3, none⟩ x3).setCell ⟨g, 4, none⟩ x4).setCell ⟨g, 5, none⟩ x5).setCell ⟨g, 6, none⟩ x6).setCell ⟨g, 7, none⟩ x7).setCell ⟨g, 8, none⟩ x8).setCell ⟨g, 9, none⟩ x9).setCell ⟨g, 10, none⟩ x10) g #[x0, x1, x2, x3, x4, x5, x6, x7, x8, x9, x10, a11, a12] t := h10.set 10 x10
 have h12 : Blk ((((((((((((w.setCell ⟨g, 0, none⟩ x0).setCell ⟨g, 1, none⟩ x1).setCell ⟨g, 2, none⟩ x2).setCell ⟨g, 3, none⟩ x3).setCell ⟨g, 4, none⟩ x4).setCell ⟨g, 5, none⟩ x5).setCell ⟨g, 6, none⟩ x6).setCell ⟨g, 7, none⟩ x7).setCell ⟨g, 8, none⟩ x8).setCell ⟨g, 9, none⟩ x9).setCell ⟨g, 10, none⟩ x10).setCell ⟨g, 11, none⟩ x11) g #[x0, x1, x2, x3, x4, x5, x6, x7, x8, x9, x10, x11, a12] t := h11.set 11 x11
 have h13 : Blk (((((((((((((w.setCell ⟨g, 0, none⟩ x0).setCell ⟨g, 1, none⟩ x1).setCell ⟨g, 2, none⟩ x2).setCell ⟨g, 3, none⟩ x3).setCell ⟨g, 4, none⟩ x4).setCell ⟨g, 5, none⟩ x5).setCell ⟨g, 6, none⟩ x6).setCell ⟨g, 7, none⟩ x7).setCell ⟨g, 8, none⟩ x8).setCell ⟨g, 9, none⟩ x9).setCell ⟨g, 10, none⟩ x10).setCell ⟨g, 11, none⟩ x11).setCell ⟨g, 12, none⟩ x12) g #[x0, x1, x2, x3, x4, x5, x6, x7, x8, x9, x10, x11, x12] t := h12.set 12 x12
 exact ⟨⟨h.cell 0 _ rfl, h.free 0⟩, ⟨h1.cell 1 _ rfl, h1.free 1⟩, ⟨h2.cell 2 _ rfl, h2.free 2⟩, ⟨h3.cell 3 _ rfl, h3.free 3⟩, ⟨h4.cell 4 _ rfl, h4.free 4⟩, ⟨h5.cell 5 _ rfl, h5.free 5⟩, ⟨h6.cell 6 _ rfl, h6.free 6⟩, ⟨h7.cell 7 _ rfl, h7.free 7⟩, ⟨h8.cell 8 _ rfl, h8.free 8⟩, ⟨h9.cell 9 _ rfl, h9.free 9⟩, ⟨h10.cell 10 _ rfl, h10.free 10⟩, ⟨h11.cell 11 _ rfl, h11.free 11⟩, ⟨h12.cell 12 _ rfl, h12.free 12⟩, h13.cell 0 _ rfl, h13.cell 1 _ rfl, h13.cell 2 _ rfl, h13.cell 3 _ rfl, h13.cell 4 _ rfl, h13.cell 5 _ rfl, h13.cell 6 _ rfl, h13.cell 7 _ rfl, h13.cell 8 _ rfl, h13.cell 9 _ rfl, h13.cell 10 _ rfl, h13.cell 11 _ rfl, h13.cell 12 _ rfl⟩
theorem blkC13 {w : World} {g : Nat} {a0 a1 a2 a3 a4 a5 a6 a7 a8 a9 a10 a11 a12 x0 x1 x2 x3 x4 x5 x6 x7 x8 x9 x10 x11 x12 : Value} {t : TypeId} (h : Blk w g #[a0, a1, a2, a3, a4, a5, a6, a7, a8, a9, a10, a11, a12] t) : Blk (((((((((((((w.setCell ⟨g, 0, none⟩ x0).setCell ⟨g, 1, none⟩ x1).setCell ⟨g, 2, none⟩ x2).setCell ⟨g, 3, none⟩ x3).setCell ⟨g, 4, none⟩ x4).setCell ⟨g, 5, none⟩ x5).setCell ⟨g, 6, none⟩ x6).setCell ⟨g, 7, none⟩ x7).setCell ⟨g, 8, none⟩ x8).setCell ⟨g, 9, none⟩ x9).setCell ⟨g, 10, none⟩ x10).setCell ⟨g, 11, none⟩ x11).setCell ⟨g, 12, none⟩ x12) g #[x0, x1, x2, x3, x4, x5, x6, x7, x8, x9, x10, x11, x12] t := by
 have h1 : Blk (w.setCell ⟨g, 0, none⟩ x0) g #[x0, a1, a2, a3, a4, a5, a6, a7, a8, a9, a10, a11, a12] t := h.set 0 x0
 have h2 : Blk ((w.setCell ⟨g, 0, none⟩ x0).setCell ⟨g, 1, none⟩ x1) g #[x0, x1, a2, a3, a4, a5, a6, a7, a8, a9, a10, a11, a12] t := h1.set 1 x1
 have h3 : Blk (((w.setCell ⟨g, 0, none⟩ x0).setCell ⟨g, 1, none⟩ x1).setCell ⟨g, 2, none⟩ x2) g #[x0, x1, x2, a3, a4, a5, a6, a7, a8, a9, a10, a11, a12] t := h2.set 2 x2
 have h4 : Blk ((((w.setCell ⟨g, 0, none⟩ x0).setCell ⟨g, 1, none⟩ x1).setCell ⟨g, 2, none⟩ x2).setCell ⟨g, 3, none⟩ x3) g #[x0, x1, x2, x3, a4, a5, a6, a7, a8, a9, a10, a11, a12] t := h3.set 3 x3
 have h5 : Blk (((((w.setCell ⟨g, 0, none⟩ x0).setCell ⟨g, 1, none⟩ x1).setCell ⟨g, 2, none⟩ x2).setCell ⟨g, 3, none⟩ x3).setCell ⟨g, 4, none⟩ x4) g #[x0, x1, x2, x3, x4, a5, a6, a7, a8, a9, a10, a11, a12] t := h4.set 4 x4
 have h6 : Blk ((((((w.setCell ⟨g, 0, none⟩ x0).setCell ⟨g, 1, none⟩ x1).setCell ⟨g, 2, none⟩ x2).setCell ⟨g, 3, none⟩ x3).setCell ⟨g, 4, none⟩ x4).setCell ⟨g, 5, none⟩ x5) g #[x0, x1, x2, x3, x4, x5, a6, a7, a8, a9, a10, a11, a12] t := h5.set 5 x5
 have h7 : Blk (((((((w.setCell ⟨g, 0, none⟩ x0).setCell ⟨g, 1, none⟩ x1).setCell ⟨g, 2, none⟩ x2).setCell ⟨g, 3, none⟩ x3).setCell ⟨g, 4, none⟩ x4).setCell ⟨g, 5, none⟩ x5).setCell ⟨g, 6, none⟩ x6) g #[x0, x1, x2, x3, x4, x5, x6, a7, a8, a9, a10, a11, a12] t := h6.set 6 x6
 have h8 : Blk ((((((((w.setCell ⟨g, 0, none⟩ x0).setCell ⟨g, 1, none⟩ x1).setCell ⟨g, 2, none⟩ x2).setCell ⟨g, 3, none⟩ x3).setCell ⟨g, 4, none⟩ x4).setCell ⟨g, 5, none⟩ x5).setCell ⟨g, 6, none⟩ x6).setCell ⟨g, 7, none⟩ x7) g #[x0, x1, x2, x3, x4, x5, x6, x7, a8, a9, a10, a11, a12] t := h7.set 7 x7
 have h9 : Blk (((((((((w.setCell ⟨g, 0, none⟩ x0).setCell ⟨g, 1, none⟩ x1).setCell ⟨g, 2, none⟩ x2).setCell ⟨g, 3, none⟩ x3).setCell ⟨g, 4, none⟩ x4).setCell ⟨g, 5, none⟩ x5).setCell ⟨g, 6, none⟩ x6).setCell ⟨g, 7, none⟩ x7).setCell ⟨g, 8, none⟩ x8) g #[x0, x1, x2, x3, x4, x5, x6, x7, x8, a9, a10, a11, a12] t := h8.set 8 x8
 have h10 : Blk ((((((((((w.setCell ⟨g, 0, none⟩ x0).setCell ⟨g, 1, none⟩ x1).setCell ⟨g, 2, none⟩ x2).setCell ⟨g, 3, none⟩ x3).setCell ⟨g, 4, none⟩ x4).setCell ⟨g, 5, none⟩ x5).setCell ⟨g, 6, none⟩ x6).setCell ⟨g, 7, none⟩ x7).setCell ⟨g, 8, none⟩ x8).setCell ⟨g, 9, none⟩ x9) g #[x0, x1, x2, x3, x4, x5, x6, x7, x8, x9, a10, a11, a12] t := h9.set 9 x9
 have h11 : Blk (((((((((((w.setCell ⟨g, 0, none⟩ x0).setCell ⟨g, 1, none⟩ x1).setCell ⟨g, 2, none⟩ x2).setCell ⟨g, 3, none⟩ x3).setCell ⟨g, 4, none⟩ x4).setCell ⟨g, 5, none⟩ x5).setCell ⟨g, 6, none⟩ x6).setCell ⟨g, 7, none⟩ x7).setCell ⟨g, 8, none⟩ x8).setCell ⟨g, 9, none⟩ x9).setCell ⟨g, 10, none⟩ x10) g #[x0, x1, x2, x3, x4, x5, x6, x7, x8, x9, x10, a11, a12] t := h10.set 10 x10
 have h12 : Blk ((((((((((((w.setCell ⟨g, 0, none⟩ x0).setCell ⟨g, 1, none⟩ x1).setCell ⟨g, 2, none⟩ x2).setCell ⟨g, 3, none⟩ x3).setCell ⟨g, 4, none⟩ x4).setCell ⟨g, 5, none⟩ x5).setCell ⟨g, 6, none⟩ x6).setCell ⟨g, 7, none⟩ x7).setCell ⟨g, 8, none⟩ x8).setCell ⟨g, 9, none⟩ x9).setCell ⟨g, 10, none⟩ x10).setCell ⟨g, 11, none⟩ x11) g #[x0, x1, x2, x3, x4, x5, x6, x7, x8, x9, x10, x11, a12] t := h11.set 11 x11
 have h13 : Blk (((((((((((((w.setCell ⟨g, 0, none⟩ x0).setCell ⟨g, 1, none⟩ x1).setCell ⟨g, 2, none⟩ x2).setCell ⟨g, 3, none⟩ x3).setCell ⟨g, 4, none⟩ x4).setCell ⟨g, 5, none⟩ x5).setCell ⟨g, 6, none⟩ x6).setCell ⟨g, 7, none⟩ x7).setCell ⟨g, 8, none⟩ x8).setCell ⟨g, 9, none⟩ x9).setCell ⟨g, 10, none⟩ x10).setCell ⟨g, 11, none⟩ x11).setCell ⟨g, 12, none⟩ x12) g #[x0, x1, x2, x3, x4, x5, x6, x7, x8, x9, x10, x11, x12] t := h12.set 12 x12
 exact h13
theorem belowC13 {w w' : World} {B g : Nat} (h : Below B w w') (hg : B ≤ g) (x0 x1 x2 x3 x4 x5 x6 x7 x8 x9 x10 x11 x12 : Value) : Below B w (((((((((((((w'.setCell ⟨g, 0, none⟩ x0).setCell ⟨g, 1, none⟩ x1).setCell ⟨g, 2, none⟩ x2).setCell ⟨g, 3, none⟩ x3).setCell ⟨g, 4, none⟩ x4).setCell ⟨g, 5, none⟩ x5).setCell ⟨g, 6, none⟩ x6).setCell ⟨g, 7, none⟩ x7).setCell ⟨g, 8, none⟩ x8).setCell ⟨g, 9, none⟩ x9).setCell ⟨g, 10, none⟩ x10).setCell ⟨g, 11, none⟩ x11).setCell ⟨g, 12, none⟩ x12) := (((((((((((((h.setCell hg _).setCell hg _).setCell hg _).setCell hg _).setCell hg _).setCell hg _).setCell hg _).setCell hg _).setCell hg _).setCell hg _).setCell hg _).setCell hg _).setCell hg _)
theorem CoRows.low {w : World} {bs g j : Nat} {x : Cor} {ul uy un um v : Value} (h : CoRows w bs x ul uy un um) (hl : g < bs) : CoRows (w.setCell ⟨g, j, none⟩ v) bs x ul uy un um := h.kept fun k _ hk => Below.heap_setCell _ _ _ _ (show k ≠ g by omega)
theorem OwnF.low {w : World} {bs g j : Nat} {v u : Value} {R : List (List Value)} (h : OwnF w bs u R) (hl : g < bs) : OwnF (w.setCell ⟨g, j, none⟩ v) bs u R := h.kept fun k _ hk => Below.heap_setCell _ _ _ _ (show k ≠ g by have := (h.lt k hk).1; omega)
theorem Nums.low {w : World} {bs g j : Nat} {v u : Value} {l : List Int} (h : Nums w bs u l) (hl : g < bs) : Nums (w.setCell ⟨g, j, none⟩ v) bs u l := h.other (fun e => by have := (h.lt g e).1; omega) j v
theorem rowsC13 {w : World} {bs g : Nat} {x : Cor} {ul uy un um : Value} (h : CoRows w bs x ul uy un um) (hl : g < bs) (x0 x1 x2 x3 x4 x5 x6 x7 x8 x9 x10 x11 x12 : Value) : CoRows (((((((((((((w.setCell ⟨g, 0, none⟩ x0).setCell ⟨g, 1, none⟩ x1).setCell ⟨g, 2, none⟩ x2).setCell ⟨g, 3, none⟩ x3).setCell ⟨g, 4, none⟩ x4).setCell ⟨g, 5, none⟩ x5).setCell ⟨g, 6, none⟩ x6).setCell ⟨g, 7, none⟩ x7).setCell ⟨g, 8, none⟩ x8).setCell ⟨g, 9, none⟩ x9).setCell ⟨g, 10, none⟩ x10).setCell ⟨g, 11, none⟩ x11).setCell ⟨g, 12, none⟩ x12) bs x ul uy un um := (((((((((((((h.low hl).low hl).low hl).low hl).low hl).low hl).low hl).low hl).low hl).low hl).low hl).low hl).low hl)
end Go.Proofs.Ytlhoonohpfpkbaa
