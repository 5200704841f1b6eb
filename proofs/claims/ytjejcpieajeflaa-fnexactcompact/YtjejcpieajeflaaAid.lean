/-
  Plain lemmas on numbers, bytes and lists of bytes that the walks of this seat use (no program in sight, no condition).
-/
import Derived.WalkKit
import Derived.ProofKit
import Derived.Laws.IdiomStrings
import Derived.Laws.BytesString
import Derived.PlainAid
import Derived.Lib.BufferRead
import Derived.Laws.OwnMore
import Derived.Below
import Derived.OwnWalk
import Derived.Lib.QuoteBits
import Derived.Lib.Bytealg
namespace Go.Proofs.Ytjejcpieajeflaa
open Go.RowKit Go.PlainAid

/-- The byte of a number. -/
def byt (n : Nat) : UInt8 := UInt8.ofNat n
theorem byt_toNat (n : Nat) : (byt n).toNat = n % 256 := by simp [byt]
/-- A text of a list of bytes. -/
def txt (l : List UInt8) : ByteArray := ⟨l.toArray⟩
theorem txt_size (l : List UInt8) : (txt l).size = l.length := by simp [txt, ByteArray.size]
theorem txt_cat (a b : List UInt8) : txt a ++ txt b = txt (a ++ b) := ByteArray.mk_append_mk a b
theorem txt_inj (a b : List UInt8) (h : txt a = txt b) : a = b := by
  have := congrArg (fun x : ByteArray => x.data.toList) h
  simpa [txt] using this
theorem txt_toList (s : ByteArray) : txt s.data.toList = s := by simp [txt]

/-- The low k bytes of n, the highest first. -/
def low (n : Nat) : Nat → List UInt8
  | 0 => []
  | k + 1 => byt (n / 256 ^ k) :: low n k
theorem low_length (n k : Nat) : (low n k).length = k := by
  induction k with
  | zero => rfl
  | succ k ih => simp [low, ih]

theorem run_one_byte {P : Program} (w : World) (src dst e : TypeId) (hs : P.underlying src = some (.slice e)) (he : P.underlying e = some (.int .u8)) (hd : P.underlying dst = some .string) (x : Nat) (cap : Nat) :
    (convert src dst (.slice (some ⟨w.heap.size, 0, none⟩) 1 cap)).run P (w.alloc (.cells #[.int .u8 ((x % 256 : Nat) : Int)] e)) = .ok (.string (txt [byt x])) (w.alloc (.cells #[.int .u8 ((x % 256 : Nat) : Int)] e)) := by
  have h := run_convert_bytes_back (P := P) (w.alloc (.cells #[.int .u8 ((x % 256 : Nat) : Int)] e)) src dst e ⟨w.heap.size, 0, none⟩ cap [byt x] hs he hd (by
    intro j hj
    match j, hj with
    | 0, _ => simp [Addr.add, byt_toNat])
  simpa [txt] using h

theorem shr8 (n k : Nat) : (n : Int) / 2 ^ (8 * k) = ((n / 256 ^ k : Nat) : Int) := by
  have e2 : (256 : Nat) ^ k = 2 ^ (8 * k) := by rw [Nat.pow_mul]
  rw [e2]
  norm_cast

/-- The cells of a list of bytes. -/
def byteCells (l : List UInt8) : Array Value := (l.map fun b => Value.int .u8 (b.toNat : Int)).toArray

theorem div_step (n k : Nat) : n / 256 ^ (k + 1) = n / 256 ^ k / 256 := by rw [Nat.div_div_eq_div_mul, Nat.pow_succ]

theorem byteCells_size (l : List UInt8) : (byteCells l).size = l.length := by simp [byteCells]
/-- The row of Fixed behind k of its k0 rounds: noughts, then the low k bytes. -/
def fixRow (n k0 k : Nat) : Array Value := byteCells (List.replicate (k0 - k) 0 ++ low n k)
theorem fixRow_zero (n k0 : Nat) : madeCells #[Value.int .u8 0] k0 = fixRow n k0 0 := by
  apply Array.ext
  · simp [fixRow, byteCells, low, size_madeCells]
  · intro i h1 h2
    simp [fixRow, byteCells, low, madeCells, Nat.mod_one]
theorem fixRow_at (n k0 k : Nat) (h : k < k0) : (fixRow n k0 k)[k0 - 1 - k]? = some (Value.int .u8 0) := by
  have e : k0 - k = (k0 - 1 - k) + 1 := by omega
  simp only [fixRow, byteCells, e]
  rw [List.replicate_succ']
  simp
theorem fixRow_set (n k0 k : Nat) (h : k < k0) : (fixRow n k0 k).setIfInBounds (k0 - 1 - k) (.int .u8 ((byt (n / 256 ^ k)).toNat : Int)) = fixRow n k0 (k + 1) := by
  have e : k0 - k = (k0 - 1 - k) + 1 := by omega
  have e' : k0 - (k + 1) = k0 - 1 - k := by omega
  simp only [fixRow, byteCells, e, e']
  rw [List.replicate_succ']
  simp [low]

theorem shr8_byte (n k : Nat) : (n : Int) / 2 ^ (8 * k) % 256 = ((byt (n / 256 ^ k)).toNat : Int) := by
  rw [shr8, byt_toNat]
  omega
theorem fixRow_full (n k : Nat) : fixRow n k k = byteCells (low n k) := by simp [fixRow]
theorem run_row {P : Program} (w : World) (src dst e : TypeId) (hs : P.underlying src = some (.slice e)) (he : P.underlying e = some (.int .u8)) (hd : P.underlying dst = some .string) (l : List UInt8) (cap : Nat) :
    (convert src dst (.slice (some ⟨w.heap.size, 0, none⟩) l.length cap)).run P (w.alloc (.cells (byteCells l) e)) = .ok (.string (txt l)) (w.alloc (.cells (byteCells l) e)) :=
  run_convert_bytes_back (P := P) (w.alloc (.cells (byteCells l) e)) src dst e ⟨w.heap.size, 0, none⟩ cap l hs he hd (by
    intro j hj
    have e : (⟨w.heap.size, 0, none⟩ : Addr).add j = ⟨w.heap.size, j, none⟩ := by cases j <;> simp [Addr.add]
    rw [e, World.cell?_alloc_mark]
    simp [byteCells, hj])

/-- 'x | y' of two numbers that share no bit. -/
theorem or_join (i x y : Nat) (hx : x % 2 ^ i = 0) (hy : y < 2 ^ i) (h : x + y < 9223372036854775808) : bits .or .i64 (x : Int) (y : Int) = ((x + y : Nat) : Int) := by
  show IntKind.i64.wrap ((BitVec.ofInt 64 (x : Int) ||| BitVec.ofInt 64 (y : Int)).toNat : Int) = _
  rw [BitVec.toNat_or, ofInt_u64 x (by omega), ofInt_u64 y (by omega), nat_join i x y hx hy]
  exact Lib.wrap_i64_small _ h

/-- Byte k of a text as a natural number. -/
def bn (s : ByteArray) (k : Nat) : Nat := (bt s k).toNat
theorem bt_bn (s : ByteArray) (k : Nat) : bt s k = (bn s k : Int) := by have := bt_nonneg s k; unfold bn; omega
theorem bn_lt (s : ByteArray) (k : Nat) : bn s k < 256 := by have := bt_le s k; have := bt_nonneg s k; unfold bn; omega
theorem get_bn (s : ByteArray) : ∀ (n : Nat) (h : n < s.size), ((s[n]'h).toNat : Int) = (bn s n : Int) := fun n h => by rw [← bt_bn]; exact get_bt s n h

/-- The number of the first k bytes, the highest first. -/
def rdv (s : ByteArray) : Nat → Nat
  | 0 => 0
  | k + 1 => rdv s k * 256 + bn s k
theorem rdv_lt (s : ByteArray) (k : Nat) : rdv s k < 256 ^ k := by
  induction k with
  | zero => simp [rdv]
  | succ k ih =>
    have := bn_lt s k
    rw [rdv, Nat.pow_succ]
    omega
theorem rdv_le (s : ByteArray) (k : Nat) (h : k ≤ 6) : rdv s k < 281474976710656 :=
  Nat.lt_of_lt_of_le (rdv_lt s k) (Nat.pow_le_pow_right (by omega) h : 256 ^ k ≤ 256 ^ 6)
theorem shl8_or (s : ByteArray) (k : Nat) (h : k ≤ 6) : bits .or .i64 ((rdv s k : Int) * 256) (bn s k : Int) = (rdv s (k + 1) : Int) := by
  have h1 := rdv_le s k h
  have h2 := bn_lt s k
  have e := or_join 8 (rdv s k * 256) (bn s k) (by omega) (by omega) (by omega)
  rw [show ((rdv s k : Int) * 256) = ((rdv s k * 256 : Nat) : Int) by omega, e]
  rfl

/-! ### A row of bytes of the call's own -/
/-- The slice v is the call's own (its block is base or behind it), of bytes, and holds l. -/
def Buf (w : World) (base : Nat) (v : Value) (l : List UInt8) : Prop := w.ownsRow base 5 1 v l.length (byteCells l).toList
theorem byteCells_append (a b : List UInt8) : (byteCells (a ++ b)).toList = (byteCells a).toList ++ (byteCells b).toList := by simp [byteCells]
theorem Buf.alloc {w : World} {base : Nat} {v : Value} {l : List UInt8} (h : Buf w base v l) (o : Obj) : Buf (w.alloc o) base v l := World.ownsRow.alloc h o
theorem Buf.made (w : World) (base cap : Nat) (cur : Array Value) (hb : base ≤ w.heap.size) (hm : cap ≤ maxLen) (hs : cur.size = cap) :
    Buf (w.alloc (.cells cur 5)) base (.slice (some ⟨w.heap.size, 0, none⟩) 0 cap) [] := by
  unfold Buf
  have := World.ownsRow_made (base := base) (e := 5) (size := 1) w cur cap hb hm (by omega)
  simpa [byteCells] using this
/-- 'append(buf, b0, b1 ..)', what is appended lying in a new block. -/
theorem wpList_append_bytes {P : Program} {w : World} {ops : Array Oper} {rest : List Oper} {o : Oper} {a : Act} {Q : Exit → Act → World → Prop} (hgd : o.guard = none) (s x : Operand) (t : TypeId)
    (ho : o.op = .call { callee := .builtin .append, args := #[s, x], argTypes := #[t, t] })
    (ht : P.underlying t = some (.slice 5)) (hinfo : (P.info? 5).map (fun i => (i.zero, i.size, i.bytes)) = some (some (.int .u8 0), 1, 1))
    (base : Nat) (v : Value) (l : List UInt8) (hs : a.eval s = v) (hown : Buf w base v l) (cs : Array Value) (bs : List UInt8) (hcs : cs = byteCells bs) (m c : Nat) (hm : m = bs.length)
    (hx : a.eval x = .slice (some ⟨w.heap.size, 0, none⟩) m c) (hlen : l.length + bs.length ≤ 140737488355328) (hbase : base ≤ w.heap.size)
    (h : ∀ v' w', Buf w' base v' (l ++ bs) → Below base w w' → wpList P ops Q rest (a.put o.dst v') w') : wpList P ops Q (o :: rest) a (w.alloc (.cells cs 5)) := by
  obtain ⟨i0, hi, hz0, hz1, hz2⟩ := info_parts hinfo
  subst hm
  subst hcs
  refine wpList_append_own (w := w.alloc (.cells (byteCells bs) 5)) hgd s x t ho base 5 i0 (.int .u8 0) 1 1 ht hi hz0 hz1 hz2 rfl (by decide) v l.length (byteCells l).toList hs (hown.alloc _) ⟨w.heap.size, 0, none⟩ bs.length c (byteCells bs).toList hx (by simp [byteCells]) ?_ ?_ ?_ ?_ ?_ ?_
  · intro j u hj
    have e : (⟨w.heap.size, 0, none⟩ : Addr).add j = ⟨w.heap.size, j, none⟩ := by cases j <;> simp [Addr.add]
    rw [e, World.cell?_alloc_mark]
    simpa using hj
  · intro u hu
    simp [byteCells] at hu
    obtain ⟨b, _, rfl⟩ := hu
    rfl
  · unfold maxLen; omega
  · omega
  · simp; omega
  · intro v' w' h1 h2 _
    have hb0 : ∀ k, v.ownBlock = some k → base ≤ k := fun k hk => (World.ownsRow.lt hown k hk).1
    refine h v' w' ?_ ?_
    · unfold Buf
      rw [List.length_append, byteCells_append]
      exact h1
    · exact ((Below.refl base w).alloc hbase _).grown h2 (by simp; omega) (by
        intro k hk
        exact hb0 k hk)
/-- The cells of a new block of bytes. -/
theorem cells_new (w : World) (cs : Array Value) (bs : List UInt8) (hcs : cs = byteCells bs) : ∀ j u, (byteCells bs).toList[j]? = some u → ((w.alloc (.cells cs 5)).drew).cell? ((⟨w.heap.size, 0, none⟩ : Addr).add j) = some u := by
  intro j u hj
  subst hcs
  have e : (⟨w.heap.size, 0, none⟩ : Addr).add j = ⟨w.heap.size, j, none⟩ := by cases j <;> simp [Addr.add]
  have h : (w.alloc (.cells (byteCells bs) 5)).cell? ⟨w.heap.size, j, none⟩ = some u := by
    rw [World.cell?_alloc_mark]
    simpa using hj
  rw [e]
  exact h

/-- 'make([]byte, 0, n)'. -/
theorem run_make_cap {P : Program} (t : TypeId) (ht : P.underlying t = some (.slice 5)) (hinfo : (P.info? 5).map (fun i => (i.zero, i.size, i.bytes)) = some (some (.int .u8 0), 1, 1)) (n : Nat) (C : Int) (hC : C = (n : Int)) (hn : n ≤ 281474976710656) (w : World) :
    (Instr.makeSlice t (.int .i64 0) (.int .i64 C)).run P w = .ok (.slice (some ⟨w.heap.size, 0, none⟩) 0 n) (w.alloc (.cells (madeCells #[.int .u8 0] n) 5)) := by
  subst hC
  obtain ⟨i0, hi, hz0, hz1, hz2⟩ := info_parts hinfo
  have hr := run_make (P := P) w t 5 i0 (.int .u8 0) ht hi hz0 .i64 .i64 0 n (by omega) (by omega) (by rw [hz2]; omega) (by omega)
  have e : (Value.int .u8 0).cells = #[Value.int .u8 0] := rfl
  rw [e] at hr
  simpa [hz1] using hr

/-- 'append(buf, ..)' as one step of a region that draws its order. -/
theorem step_append_buf {P : Program} {ops : Array Oper} {o : Oper} {a : Act} {w : World} {K : Act → World → Prop} {Q : Exit → Act → World → Prop} {E : Prop}
    (hg : o.guard = none) (s x : Operand) (t : TypeId) (hop : o.op = Op.call { callee := Callee.builtin Builtin.append, args := #[s, x], argTypes := #[t, t] })
    (ht : P.underlying t = some (.slice 5)) (hinfo : (P.info? 5).map (fun i => (i.zero, i.size, i.bytes)) = some (some (.int .u8 0), 1, 1))
    (base : Nat) (v : Value) (l : List UInt8) (hs : a.eval s = v) (hown : Buf w base v l) (ad : Addr) (bs : List UInt8) (m c : Nat) (hm : m = bs.length)
    (hx : a.eval x = .slice (some ad) m c) (hc : ∀ j u, (byteCells bs).toList[j]? = some u → w.cell? (ad.add j) = some u) (hlen : l.length + bs.length ≤ 140737488355328) (hbase : base ≤ w.heap.size)
    (hK : ∀ v' w', Buf w' base v' (l ++ bs) → Below base w w' → K (a.put o.dst v') w') :
    if Region.wanted o (yielded ops a.tmps) = true then Oper.wp P o a w K Q else E := by
  have hw : Region.wanted o (yielded ops a.tmps) = true := by simp [Region.wanted, hg]
  rw [if_pos hw]
  obtain ⟨i0, hi, hz0, hz1, hz2⟩ := info_parts hinfo
  subst hm
  obtain ⟨v', w', hrun, r1, r2, _⟩ := run_append_own (P := P) w base t o.type 5 i0 (.int .u8 0) 1 1 ht hi hz0 hz1 hz2 rfl (by decide) v l.length (byteCells l).toList hown ad bs.length c (byteCells bs).toList (by simp [byteCells]) hc (by
    intro u hu
    simp [byteCells] at hu
    obtain ⟨b, _, rfl⟩ := hu
    rfl) (by unfold maxLen; omega) (by omega) hbase
  have hb0 : ∀ k, v.ownBlock = some k → base ≤ k := fun k hk => (World.ownsRow.lt hown k hk).1
  unfold Oper.wp
  simp [execOp, hop, resolve, invoke, builtin, hs, hx, hrun, Result.andThen]
  refine hK v' w' ?_ ?_
  · unfold Buf
    rw [List.length_append, byteCells_append]
    exact r1
  · exact (Below.refl base w).grown r2 hbase (fun k hk => hb0 k hk)

/-- 'string(buf)'. -/
theorem Buf.string {P : Program} {w : World} {base : Nat} {v : Value} {l : List UInt8} (h : Buf w base v l) (src dst : TypeId) (hs : P.underlying src = some (.slice 5)) (he : P.underlying 5 = some (.int .u8)) (hd : P.underlying dst = some .string) :
    (convert src dst v).run P w = .ok (.string (txt l)) w := by
  obtain ⟨hl, ⟨rfl, h0⟩ | ⟨g, cap, cur, rfl, hb, hh, hn, hm, hz, ht⟩⟩ := h
  · have : l = [] := List.eq_nil_of_length_eq_zero h0
    subst this
    exact Lib.run_convert_nil_bytes w src dst 5 0 hs he hd
  · refine run_convert_bytes_back (P := P) w src dst 5 ⟨g, 0, none⟩ cap l hs he hd ?_
    intro j hj
    have hown : w.ownsRow base 5 1 (.slice (some ⟨g, 0, none⟩) l.length cap) l.length (byteCells l).toList := ⟨hl, .inr ⟨g, cap, cur, rfl, hb, hh, hn, hm, hz, ht⟩⟩
    have e : (⟨g, 0, none⟩ : Addr).add j = ⟨g, j, none⟩ := by cases j <;> simp [Addr.add]
    rw [e, World.ownsRow.cellAt hown j (by omega)]
    simp [byteCells, hj]

theorem one_cell (x : Int) (n : Nat) (h : x = (n : Int)) (hn : n < 256) : #[Value.int .u8 x] = byteCells [byt n] := by
  subst h
  simp [byteCells, byt_toNat]
  omega
theorem two_cells (x y : Int) (a b : UInt8) (h : x = (a.toNat : Int)) (h' : y = (b.toNat : Int)) : #[Value.int .u8 x, Value.int .u8 y] = byteCells [a, b] := by
  subst h
  subst h'
  simp [byteCells]

/-! ### Var -/
/-- The bytes of Var, with fuel: n below 128 to the power fuel + 1. -/
def vF : Nat → Nat → List UInt8
  | 0, n => [byt n]
  | f + 1, n => if n < 128 then [byt n] else byt (128 + n % 128) :: vF f (n / 128)
theorem vF_small (f n : Nat) (h : n < 128) : vF f n = [byt n] := by
  cases f with
  | zero => rfl
  | succ f => rw [vF, if_pos h]
theorem vF_length (f n : Nat) : (vF f n).length ≤ f + 1 := by
  induction f generalizing n with
  | zero => simp [vF]
  | succ f ih =>
    rw [vF]
    split
    · simp
    · have := ih (n / 128)
      simp
      omega
/-- One step of the loop: what is written so far, and what is left. -/
theorem vF_round (f m : Nat) (pre : List UInt8) (hm : m < 128 ^ (f + 1)) (h : 128 ≤ m) :
    ∃ g, m / 128 < 128 ^ (g + 1) ∧ (pre ++ [byt (128 + m % 128)]) ++ vF g (m / 128) = pre ++ vF f m ∧ (g + 1 = f) := by
  cases f with
  | zero => simp at hm; omega
  | succ g =>
    refine ⟨g, ?_, ?_, rfl⟩
    · rw [Nat.pow_succ] at hm
      exact Nat.div_lt_of_lt_mul (by rw [Nat.mul_comm]; exact hm)
    · rw [vF, if_neg (by omega)]
      simp

/-! ### Hex -/
/-- The digit of a number below 16. -/
def hexd (n : Nat) : UInt8 := if n < 10 then byt (48 + n) else byt (87 + n)
theorem hexd_nat (n : Nat) (h : n < 16) : (hexd n).toNat = if n < 10 then 48 + n else 87 + n := by
  unfold hexd
  split <;> (rw [byt_toNat]; omega)
/-- The digits of the first k bytes. -/
def hexs (s : ByteArray) : Nat → List UInt8
  | 0 => []
  | k + 1 => hexs s k ++ [hexd (bn s k / 16), hexd (bn s k % 16)]
theorem hexs_length (s : ByteArray) (k : Nat) : (hexs s k).length = 2 * k := by
  induction k with
  | zero => rfl
  | succ k ih => simp [hexs, ih]; omega
/-- The sixteen digits as a text. -/
def digits : ByteArray := ⟨#[48, 49, 50, 51, 52, 53, 54, 55, 56, 57, 97, 98, 99, 100, 101, 102]⟩
theorem digits_at (n : Nat) (h : n < 16) (h' : n < digits.size) : ((digits[n]'h').toNat : Int) = ((hexd n).toNat : Int) := by
  rw [hexd_nat n h]
  rcases (show n = 0 ∨ n = 1 ∨ n = 2 ∨ n = 3 ∨ n = 4 ∨ n = 5 ∨ n = 6 ∨ n = 7 ∨ n = 8 ∨ n = 9 ∨ n = 10 ∨ n = 11 ∨ n = 12 ∨ n = 13 ∨ n = 14 ∨ n = 15 by omega) with rfl | rfl | rfl | rfl | rfl | rfl | rfl | rfl | rfl | rfl | rfl | rfl | rfl | rfl | rfl | rfl <;> rfl

/-! ### Unhex -/
/-- The number of a digit, -1 if it is none. -/
def fromHex (c : Nat) : Int := if 48 ≤ c ∧ c ≤ 57 then (c : Int) - 48 else if 97 ≤ c ∧ c ≤ 102 then (c : Int) - 87 else -1
theorem fromHex_bd (c : Nat) : -1 ≤ fromHex c ∧ fromHex c ≤ 15 := by unfold fromHex; split <;> (try split) <;> omega
theorem fromHex_hit (k c : Nat) (hk : k < 16) (h : ((hexd k).toNat : Int) = (c : Int)) : fromHex c = (k : Int) := by
  rw [hexd_nat k hk] at h
  unfold fromHex
  split at h <;> (split <;> (try split) <;> omega)
theorem fromHex_miss (c : Nat) (h : ∀ j, j < 16 → ((hexd j).toNat : Int) ≠ (c : Int)) : fromHex c = -1 := by
  unfold fromHex
  by_cases a : 48 ≤ c ∧ c ≤ 57
  · have := h (c - 48) (by omega)
    rw [hexd_nat _ (by omega), if_pos (by omega)] at this
    omega
  · by_cases b : 97 ≤ c ∧ c ≤ 102
    · have := h (c - 87) (by omega)
      rw [hexd_nat _ (by omega), if_neg (by omega)] at this
      omega
    · rw [if_neg a, if_neg b]
/-- What the first k pairs of digits make, if they are digits. -/
def unhL (s : ByteArray) : Nat → Option (List UInt8)
  | 0 => some []
  | k + 1 => match unhL s k with
    | some l => if fromHex (bn s (2 * k)) < 0 ∨ fromHex (bn s (2 * k + 1)) < 0 then none else some (l ++ [byt (16 * fromHex (bn s (2 * k)) + fromHex (bn s (2 * k + 1))).toNat])
    | none => none
theorem unhL_yes (s : ByteArray) (k : Nat) (l : List UInt8) (h : unhL s k = some l) (h1 : 0 ≤ fromHex (bn s (2 * k))) (h2 : 0 ≤ fromHex (bn s (2 * k + 1))) :
    unhL s (k + 1) = some (l ++ [byt (16 * fromHex (bn s (2 * k)) + fromHex (bn s (2 * k + 1))).toNat]) := by
  rw [unhL, h]
  exact if_neg (by omega)
theorem unhL_no (s : ByteArray) (k : Nat) (h1 : fromHex (bn s (2 * k)) < 0 ∨ fromHex (bn s (2 * k + 1)) < 0) : unhL s (k + 1) = none := by
  rw [unhL]
  cases unhL s k with
  | none => rfl
  | some l => exact if_pos h1
theorem unhL_none (s : ByteArray) (k d : Nat) (h : unhL s k = none) : unhL s (k + d) = none := by
  induction d with
  | zero => exact h
  | succ d ih => rw [← Nat.add_assoc, unhL, ih]
theorem unhL_length (s : ByteArray) (k : Nat) (l : List UInt8) (h : unhL s k = some l) : l.length = k := by
  induction k generalizing l with
  | zero => simp [unhL] at h; subst h; rfl
  | succ k ih =>
    cases e : unhL s k with
    | none => rw [unhL, e] at h; simp at h
    | some m =>
      have hm := ih m e
      rw [unhL, e] at h
      by_cases c : fromHex (bn s (2 * k)) < 0 ∨ fromHex (bn s (2 * k + 1)) < 0
      · simp only [if_pos c] at h; simp at h
      · simp only [if_neg c] at h; simp at h; subst h; simp [hm]
/-- What Unhex answers. -/
def unhex (s : ByteArray) : Option (List UInt8) := if s.size % 2 = 1 then none else unhL s (s.size / 2)
theorem digits_index (c : Nat) (h : c < 256) : Lib.indexByte [48, 49, 50, 51, 52, 53, 54, 55, 56, 57, 97, 98, 99, 100, 101, 102] (Int.toNat (c : Int)).toUInt8 = fromHex c := by
  have key : ∀ d : Fin 256, Lib.indexByte [48, 49, 50, 51, 52, 53, 54, 55, 56, 57, 97, 98, 99, 100, 101, 102] (d.val).toUInt8 = fromHex d.val := by decide +kernel
  simpa using key ⟨c, h⟩

/-! ### ReadVar -/
/-- The number of d bytes from place i on, seven bits to a byte, the lowest first. -/
def vvS (s : ByteArray) : Nat → Nat → Nat
  | _, 0 => 0
  | i, d + 1 => bn s i % 128 + 128 * vvS s (i + 1) d
/-- d bytes from place i on. -/
def sg (s : ByteArray) : Nat → Nat → List UInt8
  | _, 0 => []
  | i, d + 1 => byt (bn s i) :: sg s (i + 1) d
theorem sg_length (s : ByteArray) (d : Nat) : ∀ i, (sg s i d).length = d := by
  induction d with
  | zero => intro i; rfl
  | succ d ih => intro i; simp [sg, ih]
theorem vvS_lt (s : ByteArray) (d : Nat) : ∀ i, vvS s i d < 128 ^ d := by
  induction d with
  | zero => intro i; simp [vvS]
  | succ d ih =>
    intro i
    have := ih (i + 1)
    rw [vvS, Nat.pow_succ]
    omega
theorem vvS_le (s : ByteArray) (d : Nat) (h : d ≤ 7) (i : Nat) : vvS s i d ≤ 562949953421311 := by
  have h1 := vvS_lt s d i
  have h2 : 128 ^ d ≤ 128 ^ 7 := Nat.pow_le_pow_right (by omega) h
  omega
theorem vvS_snoc (s : ByteArray) (d : Nat) : ∀ i, vvS s i (d + 1) = vvS s i d + bn s (i + d) % 128 * 128 ^ d := by
  induction d with
  | zero => intro i; simp [vvS]
  | succ d ih =>
    intro i
    rw [vvS, ih (i + 1), vvS]
    rw [show i + 1 + d = i + (d + 1) by omega, Nat.pow_succ]
    have e : 128 * (bn s (i + (d + 1)) % 128 * 128 ^ d) = bn s (i + (d + 1)) % 128 * (128 ^ d * 128) := by rw [Nat.mul_comm 128, Nat.mul_assoc]
    rw [Nat.mul_add, e]
    omega
/-- Var would have made just these bytes. -/
def canonS (s : ByteArray) : Nat → Nat → Prop
  | _, 0 => False
  | i, 1 => bn s i < 128
  | i, d + 2 => 128 ≤ bn s i ∧ 0 < vvS s (i + 1) (d + 1) ∧ canonS s (i + 1) (d + 1)
theorem canonS_iff (s : ByteArray) (d : Nat) : ∀ i f, d ≤ f → (vF f (vvS s i (d + 1)) = sg s i (d + 1) ↔ canonS s i (d + 1)) := by
  induction d with
  | zero =>
    intro i f _
    have hb := bn_lt s i
    rw [vF_small f _ (by simp [vvS]; omega)]
    simp only [vvS, sg, canonS, Nat.mul_zero, Nat.add_zero, List.cons.injEq, and_true]
    constructor
    · intro h
      have := congrArg UInt8.toNat h
      rw [byt_toNat, byt_toNat] at this
      omega
    · intro h
      rw [Nat.mod_eq_of_lt h]
  | succ d ih =>
    intro i f hf
    have hb := bn_lt s i
    obtain ⟨g, rfl⟩ : ∃ g, f = g + 1 := ⟨f - 1, by omega⟩
    have hI := ih (i + 1) g (by omega)
    have ev : vvS s i (d + 2) = bn s i % 128 + 128 * vvS s (i + 1) (d + 1) := rfl
    have es : sg s i (d + 2) = byt (bn s i) :: sg s (i + 1) (d + 1) := rfl
    have ec : canonS s i (d + 2) = (128 ≤ bn s i ∧ 0 < vvS s (i + 1) (d + 1) ∧ canonS s (i + 1) (d + 1)) := rfl
    show vF (g + 1) (vvS s i (d + 2)) = sg s i (d + 2) ↔ canonS s i (d + 2)
    rw [ev, es, ec]
    generalize hV : vvS s (i + 1) (d + 1) = V at *
    by_cases h0 : V = 0
    · subst h0
      rw [vF_small _ _ (by omega)]
      constructor
      · intro h
        have := congrArg List.length h
        simp [sg_length] at this
      · intro h; omega
    · rw [vF, if_neg (by omega), show (bn s i % 128 + 128 * V) % 128 = bn s i % 128 by omega, show (bn s i % 128 + 128 * V) / 128 = V by omega, List.cons.injEq, hI]
      constructor
      · rintro ⟨h1, h2⟩
        have := congrArg UInt8.toNat h1
        rw [byt_toNat, byt_toNat] at this
        exact ⟨by omega, by omega, h2⟩
      · rintro ⟨h1, _, h2⟩
        exact ⟨by rw [show 128 + bn s i % 128 = bn s i by omega], h2⟩
theorem vvS_pos (s : ByteArray) (d : Nat) (i : Nat) (h : bn s (i + d) % 128 ≠ 0) : 0 < vvS s i (d + 1) := by
  rw [vvS_snoc]
  have : 0 < bn s (i + d) % 128 * 128 ^ d := Nat.mul_pos (by omega) (Nat.pow_pos (by omega))
  omega
theorem canonS_char (s : ByteArray) (d : Nat) : ∀ i, canonS s i (d + 1) ↔ (∀ j, j < d → 128 ≤ bn s (i + j)) ∧ bn s (i + d) < 128 ∧ (d = 0 ∨ bn s (i + d) ≠ 0) := by
  induction d with
  | zero => intro i; simp [canonS]
  | succ d ih =>
    intro i
    have ec : canonS s i (d + 2) = (128 ≤ bn s i ∧ 0 < vvS s (i + 1) (d + 1) ∧ canonS s (i + 1) (d + 1)) := rfl
    show canonS s i (d + 2) ↔ _
    rw [ec, ih (i + 1)]
    rw [show i + 1 + d = i + (d + 1) by omega]
    constructor
    · rintro ⟨h1, h2, h3, h4, h5⟩
      refine ⟨?_, h4, .inr ?_⟩
      · intro j hj
        cases j with
        | zero => exact h1
        | succ j => have := h3 j (by omega); rwa [show i + 1 + j = i + (j + 1) by omega] at this
      · rcases h5 with rfl | h5
        · simp [vvS] at h2
          intro h
          simp at h
          rw [h] at h2
          simp at h2
        · exact h5
    · rintro ⟨h1, h2, h3⟩
      have h4 : bn s (i + (d + 1)) ≠ 0 := by
        rcases h3 with h3 | h3
        · omega
        · exact h3
      refine ⟨h1 0 (by omega), ?_, ?_, h2, .inr h4⟩
      · exact vvS_pos s d (i + 1) (by rw [show i + 1 + d = i + (d + 1) by omega]; omega)
      · intro j hj
        have := h1 (j + 1) (by omega)
        rwa [show i + (j + 1) = i + 1 + j by omega] at this
/-- What ReadVar finds: k bytes that Var would have made, within the first seven. -/
def FindV (s : ByteArray) (k : Nat) : Prop := 1 ≤ k ∧ k ≤ 7 ∧ k ≤ s.size ∧ canonS s 0 k
theorem FindV.one {s : ByteArray} {k k' : Nat} (h : FindV s k) (h' : FindV s k') : k = k' := by
  obtain ⟨a1, a2, a3, a4⟩ := h
  obtain ⟨b1, b2, b3, b4⟩ := h'
  obtain ⟨d, rfl⟩ : ∃ d, k = d + 1 := ⟨k - 1, by omega⟩
  obtain ⟨d', rfl⟩ : ∃ d', k' = d' + 1 := ⟨k' - 1, by omega⟩
  obtain ⟨c1, c2, _⟩ := (canonS_char s d 0).1 a4
  obtain ⟨e1, e2, _⟩ := (canonS_char s d' 0).1 b4
  rcases Nat.lt_trichotomy d d' with h | h | h
  · have := e1 d h; omega
  · omega
  · have := c1 d' h; omega
theorem sg_extract (s : ByteArray) (k : Nat) (h : k ≤ s.size) : s.extract 0 k = txt (sg s 0 k) := by
  have key : ∀ d i, i + d ≤ s.size → (s.data.toList.drop i).take d = sg s i d := by
    intro d
    induction d with
    | zero => intro i _; simp [sg]
    | succ d ih =>
      intro i hi
      have hlt : i < s.data.toList.length := by simp; exact (by have : s.data.size = s.size := rfl; omega)
      rw [List.drop_eq_getElem_cons hlt, List.take_succ_cons, ih (i + 1) (by omega), sg]
      congr 1
      have hg := get_bn s i (by omega)
      have : (s[i]'(by omega)).toNat = bn s i := by omega
      rw [← this]
      simp [byt]
      rfl
  apply ByteArray.ext
  apply Array.toList_inj.1
  rw [Lib.extract_data]
  simp only [txt]
  rw [← key k 0 (by omega)]
  simp

end Go.Proofs.Ytjejcpieajeflaa
