/- Aid Fix CrcAid -/
import Derived.WalkKit
import Derived.ProofKit
import Derived.Laws.IdiomStrings
import Derived.Laws.BytesString
import Derived.PlainAid
import Derived.Lib.BufferRead
import Derived.Laws.OwnMore
import Derived.Below
import Derived.OwnWalk
import Derived.Lib.QuoteBits
import Derived.Lib.Bytealg
import Derived.Test.YtpmgndgkmffcnaaGreatDoorRows
import Derived.OpenShut
import Derived.Handy
import Derived.WalkLawsBesides
import Derived.Outline
import Derived.Deep.OwnRows
import Derived.Laws.BitsLemmas
import Derived.Laws.Bits64
import Derived.Lib.LaidTab
namespace Go.Proofs.YtpmgndgkmffcnaaGreatDoor
open Go.RowKit Go.PlainAid
def byt (n : Nat) : UInt8 := UInt8.ofNat n
theorem byt_toNat (n : Nat) : (byt n).toNat = n % 256 := by simp [byt]
def txt (l : List UInt8) : ByteArray := ⟨l.toArray⟩
theorem txt_size (l : List UInt8) : (txt l).size = l.length := by simp [txt, ByteArray.size]
theorem txt_cat (a b : List UInt8) : txt a ++ txt b = txt (a ++ b) := ByteArray.mk_append_mk a b
theorem txt_inj (a b : List UInt8) (h : txt a = txt b) : a = b := by
 have := congrArg (fun x : ByteArray => x.data.toList) h
 simpa [txt] using this
theorem txt_toList (s : ByteArray) : txt s.data.toList = s := by simp [txt]
def low (n : Nat) : Nat → List UInt8
 | 0 => []
 | k + 1 => byt (n / 256 ^ k) :: low n k
theorem low_length (n k : Nat) : (low n k).length = k := by
 induction k with
 | zero => rfl
 | succ k ih => simp [low, ih]
theorem run_one_byte {P : Program} (w : World) (src dst e : TypeId) (hs : P.underlying src = some (.slice e)) (he : P.underlying e = some (.int .u8)) (hd : P.underlying dst = some .string) (x : Nat) (cap : Nat) :
  (convert src dst (.slice (some ⟨w.heap.size, 0, none⟩) 1 cap)).run P (w.alloc (.cells #[.int .u8 ((x % 256 : Nat) : Int)] e)) = .ok (.string (txt [byt x])) (w.alloc (.cells #[.int .u8 ((x % 256 : Nat) : Int)] e)) := by
 have h := run_convert_bytes_back (P := P) (w.alloc (.cells #[.int .u8 ((x % 256 : Nat) : Int)] e)) src dst e ⟨w.heap.size, 0, none⟩ cap [byt x] hs he hd (by
  intro j hj
  match j, hj with
  | 0, _ => simp [Addr.add, byt_toNat])
 simpa [txt] using h
theorem shr8 (n k : Nat) : (n : Int) / 2 ^ (8 * k) = ((n / 256 ^ k : Nat) : Int) := by
 have e2 : (256 : Nat) ^ k = 2 ^ (8 * k) := by rw [Nat.pow_mul]
 rw [e2]
 norm_cast
def byteCells (l : List UInt8) : Array Value := (l.map fun b => Value.int .u8 (b.toNat : Int)).toArray
theorem div_step (n k : Nat) : n / 256 ^ (k + 1) = n / 256 ^ k / 256 := by rw [Nat.div_div_eq_div_mul, Nat.pow_succ]
def fixRow (n k0 k : Nat) : Array Value := byteCells (List.replicate (k0 - k) 0 ++ low n k)
theorem fixRow_zero (n k0 : Nat) : madeCells #[Value.int .u8 0] k0 = fixRow n k0 0 := by
 apply Array.ext
 ·simp [fixRow, byteCells, low, size_madeCells]
 ·intro i h1 h2
  simp [fixRow, byteCells, low, madeCells, Nat.mod_one]
theorem fixRow_at (n k0 k : Nat) (h : k < k0) : (fixRow n k0 k)[k0 - 1 - k]? = some (Value.int .u8 0) := by
 have e : k0 - k = (k0 - 1 - k) + 1 := by omega
 simp only [fixRow, byteCells, e]
 rw [List.replicate_succ']
 simp
theorem fixRow_set (n k0 k : Nat) (h : k < k0) : (fixRow n k0 k).setIfInBounds (k0 - 1 - k) (.int .u8 ((byt (n / 256 ^ k)).toNat : Int)) = fixRow n k0 (k + 1) := by
 have e : k0 - k = (k0 - 1 - k) + 1 := by omega
 have e' : k0 - (k + 1) = k0 - 1 - k := by omega
 simp only [fixRow, byteCells, e, e']
 rw [List.replicate_succ']
 simp [low]
theorem shr8_byte (n k : Nat) : (n : Int) / 2 ^ (8 * k) % 256 = ((byt (n / 256 ^ k)).toNat : Int) := by
 rw [shr8, byt_toNat]
 omega
theorem fixRow_full (n k : Nat) : fixRow n k k = byteCells (low n k) := by simp [fixRow]
theorem run_row {P : Program} (w : World) (src dst e : TypeId) (hs : P.underlying src = some (.slice e)) (he : P.underlying e = some (.int .u8)) (hd : P.underlying dst = some .string) (l : List UInt8) (cap : Nat) :
  (convert src dst (.slice (some ⟨w.heap.size, 0, none⟩) l.length cap)).run P (w.alloc (.cells (byteCells l) e)) = .ok (.string (txt l)) (w.alloc (.cells (byteCells l) e)) :=
 run_convert_bytes_back (P := P) (w.alloc (.cells (byteCells l) e)) src dst e ⟨w.heap.size, 0, none⟩ cap l hs he hd (by
  intro j hj
  have e : (⟨w.heap.size, 0, none⟩ : Addr).add j = ⟨w.heap.size, j, none⟩ := by cases j <;> simp [Addr.add]
  rw [e, World.cell?_alloc_mark]
  simp [byteCells, hj])
theorem or_join (i x y : Nat) (hx : x % 2 ^ i = 0) (hy : y < 2 ^ i) (h : x + y < 9223372036854775808) : bits .or .i64 (x : Int) (y : Int) = ((x + y : Nat) : Int) := by
 show IntKind.i64.wrap ((BitVec.ofInt 64 (x : Int) ||| BitVec.ofInt 64 (y : Int)).toNat : Int) = _
 rw [BitVec.toNat_or, ofInt_u64 x (by omega), ofInt_u64 y (by omega), nat_join i x y hx hy]
 exact Lib.wrap_i64_small _ h
def bn (s : ByteArray) (k : Nat) : Nat := (bt s k).toNat
theorem bt_bn (s : ByteArray) (k : Nat) : bt s k = (bn s k : Int) := by have := bt_nonneg s k; unfold bn; omega
theorem bn_lt (s : ByteArray) (k : Nat) : bn s k < 256 := by have := bt_le s k; have := bt_nonneg s k; unfold bn; omega
theorem get_bn (s : ByteArray) : ∀ (n : Nat) (h : n < s.size), ((s[n]'h).toNat : Int) = (bn s n : Int) := fun n h => by rw [← bt_bn]; exact get_bt s n h
def rdv (s : ByteArray) : Nat → Nat
 | 0 => 0
 | k + 1 => rdv s k * 256 + bn s k
theorem rdv_lt (s : ByteArray) (k : Nat) : rdv s k < 256 ^ k := by
 induction k with
 | zero => simp [rdv]
 | succ k ih =>
  have := bn_lt s k
  rw [rdv, Nat.pow_succ]
  omega
theorem rdv_le (s : ByteArray) (k : Nat) (h : k ≤ 6) : rdv s k < 281474976710656 :=
 Nat.lt_of_lt_of_le (rdv_lt s k) (Nat.pow_le_pow_right (by omega) h : 256 ^ k ≤ 256 ^ 6)
theorem shl8_or (s : ByteArray) (k : Nat) (h : k ≤ 6) : bits .or .i64 ((rdv s k : Int) * 256) (bn s k : Int) = (rdv s (k + 1) : Int) := by
 have h1 := rdv_le s k h
 have h2 := bn_lt s k
 have e := or_join 8 (rdv s k * 256) (bn s k) (by omega) (by omega) (by omega)
 rw [show ((rdv s k : Int) * 256) = ((rdv s k * 256 : Nat) : Int) by omega, e]
 rfl
def Buf (w : World) (base : Nat) (v : Value) (l : List UInt8) : Prop := w.ownsRow base 5 1 v l.length (byteCells l).toList
theorem byteCells_append (a b : List UInt8) : (byteCells (a ++ b)).toList = (byteCells a).toList ++ (byteCells b).toList := by simp [byteCells]
theorem Buf.alloc {w : World} {base : Nat} {v : Value} {l : List UInt8} (h : Buf w base v l) (o : Obj) : Buf (w.alloc o) base v l := World.ownsRow.alloc h o
theorem Buf.made (w : World) (base cap : Nat) (cur : Array Value) (hb : base ≤ w.heap.size) (hm : cap ≤ maxLen) (hs : cur.size = cap) :
  Buf (w.alloc (.cells cur 5)) base (.slice (some ⟨w.heap.size, 0, none⟩) 0 cap) [] := by
 unfold Buf
 have := World.ownsRow_made (base := base) (e := 5) (size := 1) w cur cap hb hm (by omega)
 simpa [byteCells] using this
theorem wpList_append_bytes {P : Program} {w : World} {ops : Array Oper} {rest : List Oper} {o : Oper} {a : Act} {Q : Exit → Act → World → Prop} (hgd : o.guard = none) (s x : Operand) (t : TypeId)
  (ho : o.op = .call { callee := .builtin .append, args := #[s, x], argTypes := #[t, t] })
  (ht : P.underlying t = some (.slice 5)) (hinfo : (P.info? 5).map (fun i => (i.zero, i.size, i.bytes)) = some (some (.int .u8 0), 1, 1))
  (base : Nat) (v : Value) (l : List UInt8) (hs : a.eval s = v) (hown : Buf w base v l) (cs : Array Value) (bs : List UInt8) (hcs : cs = byteCells bs) (m c : Nat) (hm : m = bs.length)
  (hx : a.eval x = .slice (some ⟨w.heap.size, 0, none⟩) m c) (hlen : l.length + bs.length ≤ 140737488355328) (hbase : base ≤ w.heap.size)
  (h : ∀ v' w', Buf w' base v' (l ++ bs) → Below base w w' → wpList P ops Q rest (a.put o.dst v') w') : wpList P ops Q (o :: rest) a (w.alloc (.cells cs 5)) := by
 obtain ⟨i0, hi, hz0, hz1, hz2⟩ := info_parts hinfo
 subst hm
 subst hcs
 refine wpList_append_own (w := w.alloc (.cells (byteCells bs) 5)) hgd s x t ho base 5 i0 (.int .u8 0) 1 1 ht hi hz0 hz1 hz2 rfl (by decide) v l.length (byteCells l).toList hs (hown.alloc _) ⟨w.heap.size, 0, none⟩ bs.length c (byteCells bs).toList hx (by simp [byteCells]) ?_ ?_ ?_ ?_ ?_ ?_
 ·intro j u hj
  have e : (⟨w.heap.size, 0, none⟩ : Addr).add j = ⟨w.heap.size, j, none⟩ := by cases j <;> simp [Addr.add]
  rw [e, World.cell?_alloc_mark]
  simpa using hj
 ·intro u hu
  simp [byteCells] at hu
  obtain ⟨b, _, rfl⟩ := hu
  rfl
 ·unfold maxLen; omega
 ·omega
 ·simp; omega
 ·intro v' w' h1 h2 _
  have hb0 : ∀ k, v.ownBlock = some k → base ≤ k := fun k hk => (World.ownsRow.lt hown k hk).1
  refine h v' w' ?_ ?_
  ·unfold Buf
   rw [List.length_append, byteCells_append]
   exact h1
  ·exact ((Below.refl base w).alloc hbase _).grown h2 (by simp; omega) (by
    intro k hk
    exact hb0 k hk)
theorem Buf.string {P : Program} {w : World} {base : Nat} {v : Value} {l : List UInt8} (h : Buf w base v l) (src dst : TypeId) (hs : P.underlying src = some (.slice 5)) (he : P.underlying 5 = some (.int .u8)) (hd : P.underlying dst = some .string) :
  (convert src dst v).run P w = .ok (.string (txt l)) w := by
 obtain ⟨hl, ⟨rfl, h0⟩ | ⟨g, cap, cur, rfl, hb, hh, hn, hm, hz, ht⟩⟩ := h
 ·have : l = [] := List.eq_nil_of_length_eq_zero h0
  subst this
  exact Lib.run_convert_nil_bytes w src dst 5 0 hs he hd
 ·refine run_convert_bytes_back (P := P) w src dst 5 ⟨g, 0, none⟩ cap l hs he hd ?_
  intro j hj
  have hown : w.ownsRow base 5 1 (.slice (some ⟨g, 0, none⟩) l.length cap) l.length (byteCells l).toList := ⟨hl, .inr ⟨g, cap, cur, rfl, hb, hh, hn, hm, hz, ht⟩⟩
  have e : (⟨g, 0, none⟩ : Addr).add j = ⟨g, j, none⟩ := by cases j <;> simp [Addr.add]
  rw [e, World.ownsRow.cellAt hown j (by omega)]
  simp [byteCells, hj]
theorem one_cell (x : Int) (n : Nat) (h : x = (n : Int)) (hn : n < 256) : #[Value.int .u8 x] = byteCells [byt n] := by
 subst h
 simp [byteCells, byt_toNat]
 omega
def vF : Nat → Nat → List UInt8
 | 0, n => [byt n]
 | f + 1, n => if n < 128 then [byt n] else byt (128 + n % 128) :: vF f (n / 128)
theorem vF_small (f n : Nat) (h : n < 128) : vF f n = [byt n] := by
 cases f with
 | zero => rfl
 | succ f => rw [vF, if_pos h]
theorem vF_length (f n : Nat) : (vF f n).length ≤ f + 1 := by
 induction f generalizing n with
 | zero => simp [vF]
 | succ f ih =>
  rw [vF]
  split
  ·simp
  ·have := ih (n / 128)
   simp
   omega
theorem vF_round (f m : Nat) (pre : List UInt8) (hm : m < 128 ^ (f + 1)) (h : 128 ≤ m) :
  ∃ g, m / 128 < 128 ^ (g + 1) ∧ (pre ++ [byt (128 + m % 128)]) ++ vF g (m / 128) = pre ++ vF f m ∧ (g + 1 = f) := by
 cases f with
 | zero => simp at hm; omega
 | succ g =>
  refine ⟨g, ?_, ?_, rfl⟩
  ·rw [Nat.pow_succ] at hm
   exact Nat.div_lt_of_lt_mul (by rw [Nat.mul_comm]; exact hm)
  ·rw [vF, if_neg (by omega)]
   simp
def digits : ByteArray := ⟨#[48, 49, 50, 51, 52, 53, 54, 55, 56, 57, 97, 98, 99, 100, 101, 102]⟩
def vvS (s : ByteArray) : Nat → Nat → Nat
 | _, 0 => 0
 | i, d + 1 => bn s i % 128 + 128 * vvS s (i + 1) d
def sg (s : ByteArray) : Nat → Nat → List UInt8
 | _, 0 => []
 | i, d + 1 => byt (bn s i) :: sg s (i + 1) d
theorem sg_length (s : ByteArray) (d : Nat) : ∀ i, (sg s i d).length = d := by
 induction d with
 | zero => intro i; rfl
 | succ d ih => intro i; simp [sg, ih]
theorem vvS_lt (s : ByteArray) (d : Nat) : ∀ i, vvS s i d < 128 ^ d := by
 induction d with
 | zero => intro i; simp [vvS]
 | succ d ih =>
  intro i
  have := ih (i + 1)
  rw [vvS, Nat.pow_succ]
  omega
theorem vvS_le (s : ByteArray) (d : Nat) (h : d ≤ 7) (i : Nat) : vvS s i d ≤ 562949953421311 := by
 have h1 := vvS_lt s d i
 have h2 : 128 ^ d ≤ 128 ^ 7 := Nat.pow_le_pow_right (by omega) h
 omega
theorem vvS_snoc (s : ByteArray) (d : Nat) : ∀ i, vvS s i (d + 1) = vvS s i d + bn s (i + d) % 128 * 128 ^ d := by
 induction d with
 | zero => intro i; simp [vvS]
 | succ d ih =>
  intro i
  rw [vvS, ih (i + 1), vvS]
  rw [show i + 1 + d = i + (d + 1) by omega, Nat.pow_succ]
  have e : 128 * (bn s (i + (d + 1)) % 128 * 128 ^ d) = bn s (i + (d + 1)) % 128 * (128 ^ d * 128) := by rw [Nat.mul_comm 128, Nat.mul_assoc]
  rw [Nat.mul_add, e]
  omega
def canonS (s : ByteArray) : Nat → Nat → Prop
 | _, 0 => False
 | i, 1 => bn s i < 128
 | i, d + 2 => 128 ≤ bn s i ∧ 0 < vvS s (i + 1) (d + 1) ∧ canonS s (i + 1) (d + 1)
theorem canonS_iff (s : ByteArray) (d : Nat) : ∀ i f, d ≤ f → (vF f (vvS s i (d + 1)) = sg s i (d + 1) ↔ canonS s i (d + 1)) := by
 induction d with
 | zero =>
  intro i f _
  have hb := bn_lt s i
  rw [vF_small f _ (by simp [vvS]; omega)]
  simp only [vvS, sg, canonS, Nat.mul_zero, Nat.add_zero, List.cons.injEq, and_true]
  constructor
  ·intro h
   have := congrArg UInt8.toNat h
   rw [byt_toNat, byt_toNat] at this
   omega
  ·intro h
   rw [Nat.mod_eq_of_lt h]
 | succ d ih =>
  intro i f hf
  have hb := bn_lt s i
  obtain ⟨g, rfl⟩ : ∃ g, f = g + 1 := ⟨f - 1, by omega⟩
  have hI := ih (i + 1) g (by omega)
  have ev : vvS s i (d + 2) = bn s i % 128 + 128 * vvS s (i + 1) (d + 1) := rfl
  have es : sg s i (d + 2) = byt (bn s i) :: sg s (i + 1) (d + 1) := rfl
  have ec : canonS s i (d + 2) = (128 ≤ bn s i ∧ 0 < vvS s (i + 1) (d + 1) ∧ canonS s (i + 1) (d + 1)) := rfl
  show vF (g + 1) (vvS s i (d + 2)) = sg s i (d + 2) ↔ canonS s i (d + 2)
  rw [ev, es, ec]
  generalize hV : vvS s (i + 1) (d + 1) = V at *
  by_cases h0 : V = 0
  ·subst h0
   rw [vF_small _ _ (by omega)]
   constructor
   ·intro h
    have := congrArg List.length h
    simp [sg_length] at this
   ·intro h; omega
  ·rw [vF, if_neg (by omega), show (bn s i % 128 + 128 * V) % 128 = bn s i % 128 by omega, show (bn s i % 128 + 128 * V) / 128 = V by omega, List.cons.injEq, hI]
   constructor
   ·rintro ⟨h1, h2⟩
    have := congrArg UInt8.toNat h1
    rw [byt_toNat, byt_toNat] at this
    exact ⟨by omega, by omega, h2⟩
   ·rintro ⟨h1, _, h2⟩
    exact ⟨by rw [show 128 + bn s i % 128 = bn s i by omega], h2⟩
theorem vvS_pos (s : ByteArray) (d : Nat) (i : Nat) (h : bn s (i + d) % 128 ≠ 0) : 0 < vvS s i (d + 1) := by
 rw [vvS_snoc]
 have : 0 < bn s (i + d) % 128 * 128 ^ d := Nat.mul_pos (by omega) (Nat.pow_pos (by omega))
 omega
theorem canonS_char (s : ByteArray) (d : Nat) : ∀ i, canonS s i (d + 1) ↔ (∀ j, j < d → 128 ≤ bn s (i + j)) ∧ bn s (i + d) < 128 ∧ (d = 0 ∨ bn s (i + d) ≠ 0) := by
 induction d with
 | zero => intro i; simp [canonS]
 | succ d ih =>
  intro i
  have ec : canonS s i (d + 2) = (128 ≤ bn s i ∧ 0 < vvS s (i + 1) (d + 1) ∧ canonS s (i + 1) (d + 1)) := rfl
  show canonS s i (d + 2) ↔ _
  rw [ec, ih (i + 1)]
  rw [show i + 1 + d = i + (d + 1) by omega]
  constructor
  ·rintro ⟨h1, h2, h3, h4, h5⟩
   refine ⟨?_, h4, .inr ?_⟩
   ·intro j hj
    cases j with
    | zero => exact h1
    | succ j => have := h3 j (by omega); rwa [show i + 1 + j = i + (j + 1) by omega] at this
   ·rcases h5 with rfl | h5
    ·simp [vvS] at h2
     intro h
     simp at h
     rw [h] at h2
     simp at h2
    ·exact h5
  ·rintro ⟨h1, h2, h3⟩
   have h4 : bn s (i + (d + 1)) ≠ 0 := by
    rcases h3 with h3 | h3
    ·omega
    ·exact h3
   refine ⟨h1 0 (by omega), ?_, ?_, h2, .inr h4⟩
   ·exact vvS_pos s d (i + 1) (by rw [show i + 1 + d = i + (d + 1) by omega]; omega)
   ·intro j hj
    have := h1 (j + 1) (by omega)
    rwa [show i + (j + 1) = i + 1 + j by omega] at this
def FindV (s : ByteArray) (k : Nat) : Prop := 1 ≤ k ∧ k ≤ 7 ∧ k ≤ s.size ∧ canonS s 0 k
theorem FindV.one {s : ByteArray} {k k' : Nat} (h : FindV s k) (h' : FindV s k') : k = k' := by
 obtain ⟨a1, a2, a3, a4⟩ := h
 obtain ⟨b1, b2, b3, b4⟩ := h'
 obtain ⟨d, rfl⟩ : ∃ d, k = d + 1 := ⟨k - 1, by omega⟩
 obtain ⟨d', rfl⟩ : ∃ d', k' = d' + 1 := ⟨k' - 1, by omega⟩
 obtain ⟨c1, c2, _⟩ := (canonS_char s d 0).1 a4
 obtain ⟨e1, e2, _⟩ := (canonS_char s d' 0).1 b4
 rcases Nat.lt_trichotomy d d' with h | h | h
 ·have := e1 d h; omega
 ·omega
 ·have := c1 d' h; omega
theorem sg_extract (s : ByteArray) (k : Nat) (h : k ≤ s.size) : s.extract 0 k = txt (sg s 0 k) := by
 have key : ∀ d i, i + d ≤ s.size → (s.data.toList.drop i).take d = sg s i d := by
  intro d
  induction d with
  | zero => intro i _; simp [sg]
  | succ d ih =>
   intro i hi
   have hlt : i < s.data.toList.length := by simp; exact (by have : s.data.size = s.size := rfl; omega)
   rw [List.drop_eq_getElem_cons hlt, List.take_succ_cons, ih (i + 1) (by omega), sg]
   congr 1
   have hg := get_bn s i (by omega)
   have : (s[i]'(by omega)).toNat = bn s i := by omega
   rw [← this]
   simp [byt]
   rfl
 apply ByteArray.ext
 apply Array.toList_inj.1
 rw [Lib.extract_data]
 simp only [txt]
 rw [← key k 0 (by omega)]
 simp
end Go.Proofs.YtpmgndgkmffcnaaGreatDoor
namespace Go.Proofs.YtpmgndgkmffcnaaGreatDoor
open Go.ChangeShapes Go.WideShapes Go.ChangeAt Go.RowKit Go.PlainAid
set_option linter.unusedVariables false
theorem Tryz.info5 : (Tryz.prog.info? 5).map (fun i => (i.zero, i.size, i.bytes)) = some (some (.int .u8 0), 1, 1) := by kernel_rfl
def fixed (n wd : Nat) : ByteArray := if n / 256 ^ wd = 0 then txt (low n wd) else txt []
set_option maxHeartbeats 400000 in
theorem spec_fixed (n k0 : Nat) (w : World) (h1 : (n : Int) ≤ 9223372036854775807) (h2 : 1 ≤ k0) (h3 : k0 ≤ 7) :
  Calls Tryz.prog 90 #[.int .i64 (n : Int), .int .i64 (k0 : Int)] w fun e w' => e = .returned (.string (fixed n k0)) ∧ Below w.heap.size w w' := by
 have q1 : (1 : Int) ≤ (k0 : Int) := by omega
 have q2 : (k0 : Int) ≤ 7 := by omega
 go_enter Tryz.func90, Tryz.ntmps90
 go_wp2
 go_loopw [0, 5, 6] (fun v0 v5 v6 wr => ∃ k m : Nat, k ≤ k0 ∧ v6 = .int .i64 k ∧ v0 = .int .i64 m ∧ (m : Int) ≤ 9223372036854775807 ∧ m = n / 256 ^ k ∧ v5 = .string (txt (low n k)) ∧ Below w.heap.size w wr) (fun _ _ i _ => k0 - (intOf i).toNat)
 case atStart => exact ⟨0, n, by omega, rfl, rfl, h1, by simp, rfl, Below.refl _ _⟩
 case round =>
  obtain ⟨k, m, hk, rfl, rfl, hm, hmk, rfl, hb⟩ := hrel
  have HM : Hid (m = n / 256 ^ k) := hmk
  clear hmk
  by_cases hlt : k < k0
  ·have e1 : ((m : Int) % 256) = ((m % 256 : Nat) : Int) := by omega
   have hc : ∀ wx : World, (convert 93 9 (.slice (some ⟨wx.heap.size, 0, none⟩) 1 1)).run Tryz.prog (wx.alloc (.cells #[.int .u8 ((m : Int) % 256)] 5)) = .ok (.string (txt [byt m])) (wx.alloc (.cells #[.int .u8 ((m : Int) % 256)] 5)) := by
    intro wx; rw [e1]; exact run_one_byte wx 93 9 5 Tryz.underlying93 Tryz.underlying5 Tryz.underlying9 m 1
   clear e1
   have hz1 : (txt [byt m]).size = 1 := rfl
   have hz2 : (txt (low n k)).size = k := by rw [txt_size, low_length]
   have hsum : (txt [byt m]).size + (txt (low n k)).size ≤ 9223372036854775807 := by omega
   clear hz1 hz2
   have hd := div_step n k
   have HD : Hid (n / 256 ^ (k + 1) = n / 256 ^ k / 256) := hd
   clear hd
   go_wp2
   go_roundw
   case rel => exact ⟨k + 1, m / 256, by omega, by go_num, by go_num, by omega, by rw [HD.out, HM.out], by rw [txt_cat, HM.out]; rfl, hb.alloc (by have := hb.size; omega) _⟩
   case measure => simp [intOf]; omega
  ·have hkk : k = k0 := by omega
   by_cases hp : (0 : Int) < (m : Int)
   ·go_wp2
    go_ret
    exact ⟨by rw [fixed, if_neg (by rw [← hkk, ← HM.out]; omega)]; rfl, hb⟩
   ·go_wp2
    go_ret
    exact ⟨by rw [fixed, if_pos (by rw [← hkk, ← HM.out]; omega)]; rfl, hb⟩
set_option maxHeartbeats 400000 in
theorem impl_fixed (n k0 : Nat) (w : World) (h1 : (n : Int) ≤ 9223372036854775807) (h2 : 1 ≤ k0) (h3 : k0 ≤ 7) :
  Calls Tryz.prog 96 #[.int .i64 (n : Int), .int .i64 (k0 : Int)] w fun e w' => e = .returned (.string (fixed n k0)) ∧ Below w.heap.size w w' := by
 have q1 : (1 : Int) ≤ (k0 : Int) := by omega
 have q2 : (k0 : Int) ≤ 7 := by omega
 have q3 : (0 : Int) ≤ (n : Int) := by omega
 have hs := shr8 n k0
 by_cases hz : n / 256 ^ k0 = 0
 ·have hs0 : ((n : Int) / 2 ^ (8 * k0) != 0) = false := by rw [hs, hz]; rfl
  clear hs
  have HZ : Hid (n / 256 ^ k0 = 0) := hz
  clear hz
  have hmk := fun wx => run_make_row' (P := Tryz.prog) 93 5 (.int .u8 0) 1 Tryz.underlying93 Tryz.info5 rfl .i64 .i64 k0 (by omega) (by omega) wx
  go_enter Tryz.func96, Tryz.ntmps96
  go_wp2
  go_loopw [27] (fun v27 wr => ∃ k : Nat, k ≤ k0 ∧ v27 = .int .i64 k ∧ wr = w.alloc (.cells (fixRow n k0 k) 5)) (fun i _ => k0 - (intOf i).toNat)
  case atStart => exact ⟨0, by omega, rfl, by rw [fixRow_zero n k0]⟩
  case round =>
   obtain ⟨k, hk, rfl, rfl⟩ := hrel
   by_cases hlt : k < k0
   ·have hat := fixRow_at n k0 k hlt
    go_wp2
    go_roundw
    case rel => exact ⟨k + 1, by omega, by go_num, by rw [shr8_byte, fixRow_set n k0 k hlt]⟩
    case measure => simp [intOf]; omega
   ·have hkk : k = k0 := by omega
    subst hkk
    rw [fixRow_full]
    have hcv := run_row (P := Tryz.prog) w 93 9 5 Tryz.underlying93 Tryz.underlying5 Tryz.underlying9 (low n k) k
    rw [low_length] at hcv
    go_wp2
    go_ret
    exact ⟨by rw [fixed, if_pos HZ.out]; rfl, (Below.refl _ _).alloc (Nat.le_refl _) _⟩
 ·have hs0 : ((n : Int) / 2 ^ (8 * k0) != 0) = true := by rw [hs]; simp only [bne_iff_ne, ne_eq]; omega
  clear hs
  have HZ : Hid (¬ n / 256 ^ k0 = 0) := hz
  clear hz
  go_enter Tryz.func96, Tryz.ntmps96
  go_wp2
  go_ret
  exact ⟨by rw [fixed, if_neg HZ.out]; rfl, Below.refl _ _⟩
set_option maxHeartbeats 400000 in
theorem spec_readFixed (s : ByteArray) (k0 : Nat) (w : World) (hs : s.size ≤ maxLen) (h2 : 1 ≤ k0) (h3 : k0 ≤ 7) (h4 : k0 ≤ s.size) :
  Calls Tryz.prog 104 #[.string s, .int .i64 (k0 : Int)] w fun e w' => e = .returned (.tuple #[.int .i64 (rdv s k0), .bool true]) ∧ w = w' := by
 unfold maxLen at hs
 have q1 : (1 : Int) ≤ (k0 : Int) := by omega
 have q2 : (k0 : Int) ≤ 7 := by omega
 have hbt := get_bn s
 go_enter Tryz.func104, Tryz.ntmps104
 go_wp2
 go_loop [6, 7] (fun v6 v7 => ∃ k : Nat, k ≤ k0 ∧ v7 = .int .i64 k ∧ v6 = .int .i64 (rdv s k)) (fun _ i => k0 - (intOf i).toNat)
 case atStart => exact ⟨0, by omega, rfl, rfl⟩
 case round =>
  obtain ⟨k, hk, rfl, rfl⟩ := hrel
  by_cases hlt : k < k0
  ·have r1 := rdv_le s k (by omega)
   have r2 := bn_lt s k
   go_wp2
   go_round
   case rel => exact ⟨k + 1, by omega, by go_num, by rw [rdv]; go_num⟩
   case measure => simp [intOf]; omega
  ·have hkk : k = k0 := by omega
   subst hkk
   go_wp2
   go_ret2
   exact ⟨rfl, rfl⟩
set_option maxHeartbeats 400000 in
theorem impl_readFixed (s : ByteArray) (k0 : Nat) (w : World) (hs : s.size ≤ maxLen) (h2 : 1 ≤ k0) (h3 : k0 ≤ 7) (h4 : k0 ≤ s.size) :
  Calls Tryz.prog 127 #[.string s, .int .i64 (k0 : Int)] w fun e w' => e = .returned (.tuple #[.int .i64 (rdv s k0), .bool true]) ∧ w = w' := by
 unfold maxLen at hs
 have q1 : (1 : Int) ≤ (k0 : Int) := by omega
 have q2 : (k0 : Int) ≤ 7 := by omega
 have hbt := get_bn s
 go_enter Tryz.func127, Tryz.ntmps127
 go_wp2
 go_loop [6, 21] (fun v6 v7 => ∃ k : Nat, k ≤ k0 ∧ v7 = .int .i64 k ∧ v6 = .int .i64 (rdv s k)) (fun _ i => k0 - (intOf i).toNat)
 case atStart => exact ⟨0, by omega, rfl, rfl⟩
 case round =>
  obtain ⟨k, hk, rfl, rfl⟩ := hrel
  by_cases hlt : k < k0
  ·have r1 := rdv_le s k (by omega)
   have r2 := bn_lt s k
   have r3 := shl8_or s k (by omega)
   go_wp2
   go_round
   case rel => exact ⟨k + 1, by omega, by go_num, by go_num⟩
   case measure => simp [intOf]; omega
  ·have hkk : k = k0 := by omega
   subst hkk
   go_wp2
   go_ret2
   exact ⟨rfl, rfl⟩
set_option maxHeartbeats 400000 in
theorem spec_readFixed_no (s : ByteArray) (wd : Int) (w : World) (hs : s.size ≤ maxLen) (h : wd < 1 ∨ 7 < wd ∨ (s.size : Int) < wd) :
  Calls Tryz.prog 104 #[.string s, .int .i64 wd] w fun e w' => e = .returned (.tuple #[.int .i64 0, .bool false]) ∧ w = w' := by
 unfold maxLen at hs
 by_cases a1 : wd < 1
 ·go_enter Tryz.func104, Tryz.ntmps104
  go_wp2
  go_ret2
  exact ⟨rfl, rfl⟩
 ·by_cases a2 : 7 < wd
  ·go_enter Tryz.func104, Tryz.ntmps104
   go_wp2
   go_ret2
   exact ⟨rfl, rfl⟩
  ·have a3 : (s.size : Int) < wd := by omega
   clear h
   go_enter Tryz.func104, Tryz.ntmps104
   go_wp2
   go_ret2
   exact ⟨rfl, rfl⟩
set_option maxHeartbeats 400000 in
theorem impl_readFixed_no (s : ByteArray) (wd : Int) (w : World) (hs : s.size ≤ maxLen) (h : wd < 1 ∨ 7 < wd ∨ (s.size : Int) < wd) :
  Calls Tryz.prog 127 #[.string s, .int .i64 wd] w fun e w' => e = .returned (.tuple #[.int .i64 0, .bool false]) ∧ w = w' := by
 unfold maxLen at hs
 by_cases a1 : wd < 1
 ·go_enter Tryz.func127, Tryz.ntmps127
  go_wp2
  go_ret2
  exact ⟨rfl, rfl⟩
 ·by_cases a2 : 7 < wd
  ·go_enter Tryz.func127, Tryz.ntmps127
   go_wp2
   go_ret2
   exact ⟨rfl, rfl⟩
  ·have a3 : (s.size : Int) < wd := by omega
   clear h
   go_enter Tryz.func127, Tryz.ntmps127
   go_wp2
   go_ret2
   exact ⟨rfl, rfl⟩
end Go.Proofs.YtpmgndgkmffcnaaGreatDoor
namespace Go.Proofs.YtpmgndgkmffcnaaGreatDoor
open Go.RowKit Go.PlainAid
def half (c : Nat) : Nat := if c % 2 = 1 then c / 2 ^^^ 2197175160 else c / 2
def halfs : Nat → Nat → Nat
 | 0, c => c
 | k + 1, c => half (halfs k c)
theorem halfs_succ (k c : Nat) : halfs (k + 1) c = half (halfs k c) := by rw [halfs]
theorem halfs_add (a b c : Nat) : halfs (a + b) c = halfs a (halfs b c) := by
 induction a with
 | zero => rw [Nat.zero_add]; rfl
 | succ a ih => rw [Nat.succ_add, halfs, ih, halfs]
theorem half_lt (c : Nat) (h : c < 4294967296) : half c < 4294967296 := by
 unfold half
 split
 ·exact Nat.xor_lt_two_pow (n := 32) (by omega) (by omega)
 ·omega
theorem halfs_lt (k c : Nat) (h : c < 4294967296) : halfs k c < 4294967296 := by
 induction k with
 | zero => exact h
 | succ k ih => exact half_lt _ ih
theorem xor_lt32 (a b : Nat) (ha : a < 4294967296) (hb : b < 4294967296) : a ^^^ b < 4294967296 := Nat.xor_lt_two_pow (n := 32) ha hb
theorem half_xor (a b : Nat) : half (a ^^^ b) = half a ^^^ half b := by
 have h1 : (a ^^^ b) % 2 = (a % 2 + b % 2) % 2 := by
  have h := Nat.xor_mod_two_pow (a := a) (b := b) (n := 1)
  rw [Nat.pow_one] at h
  rw [h]
  rcases Nat.mod_two_eq_zero_or_one a with ha | ha <;> rcases Nat.mod_two_eq_zero_or_one b with hb | hb <;> rw [ha, hb] <;> rfl
 have h2 : (a ^^^ b) / 2 = a / 2 ^^^ b / 2 := by
  have := Nat.xor_div_two_pow (a := a) (b := b) (n := 1)
  simpa using this
 have h0 : ∀ x y z : Nat, x ^^^ z ^^^ (y ^^^ z) = x ^^^ y := fun x y z => by
  rw [Nat.xor_comm y z, Nat.xor_assoc, ← Nat.xor_assoc z z y, Nat.xor_self, Nat.zero_xor]
 unfold half
 rw [h1, h2]
 rcases Nat.mod_two_eq_zero_or_one a with ha | ha <;> rcases Nat.mod_two_eq_zero_or_one b with hb | hb <;> simp only [ha, hb] <;> simp
 ·rw [Nat.xor_assoc]
 ·rw [Nat.xor_assoc, Nat.xor_assoc, Nat.xor_comm 2197175160]
 ·exact (h0 _ _ _).symm
theorem halfs_xor (k a b : Nat) : halfs k (a ^^^ b) = halfs k a ^^^ halfs k b := by
 induction k with
 | zero => rfl
 | succ k ih => rw [halfs, ih, half_xor, halfs, halfs]
theorem half_even (c : Nat) : half (2 * c) = c := by
 unfold half
 rw [if_neg (by omega)]
 omega
theorem halfs_four (q : Nat) : halfs 4 (16 * q) = q := by
 show half (half (half (half (16 * q)))) = q
 rw [show 16 * q = 2 * (2 * (2 * (2 * q))) by omega, half_even, half_even, half_even, half_even]
def sumTab : List Int := [0, 274646895, 549293790, 820201905, 1098587580, 1361435347, 1640403810, 1905808397, 2197175160, 2460548119, 2722870694, 2987750089, 3280807620, 3553878443, 3811616794, 4084100981]
theorem sumTab_length : sumTab.length = 16 := rfl
theorem sumTab_all : ∀ r : Fin 16, sumTab.getD r.val 0 = (halfs 4 r.val : Int) := by decide +kernel
theorem sumTab_at (r : Nat) (h : r < 16) : sumTab.getD r 0 = (halfs 4 r : Int) := sumTab_all ⟨r, h⟩
theorem step_four (c : Nat) : c / 16 ^^^ halfs 4 (c % 16) = halfs 4 c := by
 have e : c = 16 * (c / 16) ^^^ c % 16 := by
  have h1 := Nat.two_pow_add_eq_or_of_lt (i := 4) (b := c % 16) (by omega) (c / 16)
  have h2 : 2 ^ 4 * (c / 16) ||| c % 16 = 2 ^ 4 * (c / 16) ^^^ c % 16 := by
   apply Nat.eq_of_testBit_eq
   intro i
   rw [Nat.testBit_or, Nat.testBit_xor, Nat.testBit_two_pow_mul]
   by_cases hi : 4 ≤ i
   ·rw [show (c % 16).testBit i = false from Nat.testBit_lt_two_pow (Nat.lt_of_lt_of_le (show c % 16 < 2 ^ 4 by omega) (Nat.pow_le_pow_right (by omega) hi))]
    simp
   ·simp [hi]
  rw [h2] at h1
  rw [show 16 * (c / 16) = 2 ^ 4 * (c / 16) by omega, ← h1]
  omega
 conv => rhs; rw [e, halfs_xor, halfs_four]
def crcC (s : ByteArray) : Nat → Nat
 | 0 => 4294967295
 | k + 1 => halfs 8 (crcC s k ^^^ bn s k)
theorem crcC_succ (s : ByteArray) (k : Nat) : crcC s (k + 1) = halfs 8 (crcC s k ^^^ bn s k) := by rw [crcC]
theorem crcC_lt (s : ByteArray) (k : Nat) : crcC s k < 4294967296 := by
 induction k with
 | zero => rw [crcC]; omega
 | succ k ih =>
  have := bn_lt s k
  exact halfs_lt _ _ (xor_lt32 _ _ ih (by omega))
def crc (s : ByteArray) : Nat := 4294967295 - crcC s s.size
theorem xor_i64 (a b : Nat) (ha : a < 4294967296) (hb : b < 4294967296) : bits .xor .i64 (a : Int) (b : Int) = ((a ^^^ b : Nat) : Int) := by
 have := xor_lt32 a b ha hb
 show IntKind.i64.wrap ((BitVec.ofInt 64 (a : Int) ^^^ BitVec.ofInt 64 (b : Int)).toNat : Int) = _
 rw [BitVec.toNat_xor, BitVec.ofInt_natCast, BitVec.ofInt_natCast, BitVec.toNat_ofNat, BitVec.toNat_ofNat, Nat.mod_eq_of_lt (by omega), Nat.mod_eq_of_lt (by omega), IntKind.wrap_i64]
 omega
theorem xor_u32 (a b : Nat) (ha : a < 4294967296) (hb : b < 4294967296) : bits .xor .u32 (a : Int) (b : Int) = ((a ^^^ b : Nat) : Int) := by
 have := xor_lt32 a b ha hb
 show IntKind.u32.wrap ((BitVec.ofInt 32 (a : Int) ^^^ BitVec.ofInt 32 (b : Int)).toNat : Int) = _
 rw [BitVec.toNat_xor, BitVec.ofInt_natCast, BitVec.ofInt_natCast, BitVec.toNat_ofNat, BitVec.toNat_ofNat, Nat.mod_eq_of_lt (by omega), Nat.mod_eq_of_lt (by omega), IntKind.wrap_u32]
 omega
theorem and_u32_15 (a : Nat) (ha : a < 4294967296) : bits .and .u32 (a : Int) 15 = ((a % 16 : Nat) : Int) := by
 have := bits_mask .u32 32 (by decide) (fun n h0 h1 => by rw [IntKind.wrap_u32]; omega) 4 (by omega) (a : Int) (by omega) (by omega)
 simpa using this
end Go.Proofs.YtpmgndgkmffcnaaGreatDoor
