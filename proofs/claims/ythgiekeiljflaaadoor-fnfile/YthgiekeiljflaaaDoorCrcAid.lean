/-
  Plain lemmas on the sum of chapter 2: eight halvings of the document against two steps through a table of sixteen sums (no program in sight, no condition).
-/
import Derived.Test.YthgiekeiljflaaaDoorAid
import Derived.Laws.BitsLemmas
import Derived.Laws.Bits64
import Derived.Lib.LaidTab
namespace Go.Proofs.YthgiekeiljflaaaDoor
open Go.RowKit Go.PlainAid

/-- One halving. -/
def half (c : Nat) : Nat := if c % 2 = 1 then c / 2 ^^^ 2197175160 else c / 2
/-- So many halvings. -/
def halfs : Nat → Nat → Nat
  | 0, c => c
  | k + 1, c => half (halfs k c)
theorem halfs_succ (k c : Nat) : halfs (k + 1) c = half (halfs k c) := by rw [halfs]
theorem halfs_add (a b c : Nat) : halfs (a + b) c = halfs a (halfs b c) := by
  induction a with
  | zero => rw [Nat.zero_add]; rfl
  | succ a ih => rw [Nat.succ_add, halfs, ih, halfs]
theorem half_lt (c : Nat) (h : c < 4294967296) : half c < 4294967296 := by
  unfold half
  split
  · exact Nat.xor_lt_two_pow (n := 32) (by omega) (by omega)
  · omega
theorem halfs_lt (k c : Nat) (h : c < 4294967296) : halfs k c < 4294967296 := by
  induction k with
  | zero => exact h
  | succ k ih => exact half_lt _ ih
theorem xor_lt32 (a b : Nat) (ha : a < 4294967296) (hb : b < 4294967296) : a ^^^ b < 4294967296 := Nat.xor_lt_two_pow (n := 32) ha hb
theorem half_xor (a b : Nat) : half (a ^^^ b) = half a ^^^ half b := by
  have h1 : (a ^^^ b) % 2 = (a % 2 + b % 2) % 2 := by
    have h := Nat.xor_mod_two_pow (a := a) (b := b) (n := 1)
    rw [Nat.pow_one] at h
    rw [h]
    rcases Nat.mod_two_eq_zero_or_one a with ha | ha <;> rcases Nat.mod_two_eq_zero_or_one b with hb | hb <;> rw [ha, hb] <;> rfl
  have h2 : (a ^^^ b) / 2 = a / 2 ^^^ b / 2 := by
    have := Nat.xor_div_two_pow (a := a) (b := b) (n := 1)
    simpa using this
  have h0 : ∀ x y z : Nat, x ^^^ z ^^^ (y ^^^ z) = x ^^^ y := fun x y z => by
    rw [Nat.xor_comm y z, Nat.xor_assoc, ← Nat.xor_assoc z z y, Nat.xor_self, Nat.zero_xor]
  unfold half
  rw [h1, h2]
  rcases Nat.mod_two_eq_zero_or_one a with ha | ha <;> rcases Nat.mod_two_eq_zero_or_one b with hb | hb <;> simp only [ha, hb] <;> simp
  · rw [Nat.xor_assoc]
  · rw [Nat.xor_assoc, Nat.xor_assoc, Nat.xor_comm 2197175160]
  · exact (h0 _ _ _).symm
theorem halfs_xor (k a b : Nat) : halfs k (a ^^^ b) = halfs k a ^^^ halfs k b := by
  induction k with
  | zero => rfl
  | succ k ih => rw [halfs, ih, half_xor, halfs, halfs]
theorem half_even (c : Nat) : half (2 * c) = c := by
  unfold half
  rw [if_neg (by omega)]
  omega
theorem halfs_four (q : Nat) : halfs 4 (16 * q) = q := by
  show half (half (half (half (16 * q)))) = q
  rw [show 16 * q = 2 * (2 * (2 * (2 * q))) by omega, half_even, half_even, half_even, half_even]

/-- The table of sixteen sums. -/
def sumTab : List Int := [0, 274646895, 549293790, 820201905, 1098587580, 1361435347, 1640403810, 1905808397, 2197175160, 2460548119, 2722870694, 2987750089, 3280807620, 3553878443, 3811616794, 4084100981]
theorem sumTab_length : sumTab.length = 16 := rfl
theorem sumTab_all : ∀ r : Fin 16, sumTab.getD r.val 0 = (halfs 4 r.val : Int) := by decide +kernel
theorem sumTab_at (r : Nat) (h : r < 16) : sumTab.getD r 0 = (halfs 4 r : Int) := sumTab_all ⟨r, h⟩
/-- Four halvings are one step through the table. -/
theorem step_four (c : Nat) : c / 16 ^^^ halfs 4 (c % 16) = halfs 4 c := by
  have e : c = 16 * (c / 16) ^^^ c % 16 := by
    have h1 := Nat.two_pow_add_eq_or_of_lt (i := 4) (b := c % 16) (by omega) (c / 16)
    have h2 : 2 ^ 4 * (c / 16) ||| c % 16 = 2 ^ 4 * (c / 16) ^^^ c % 16 := by
      apply Nat.eq_of_testBit_eq
      intro i
      rw [Nat.testBit_or, Nat.testBit_xor, Nat.testBit_two_pow_mul]
      by_cases hi : 4 ≤ i
      · rw [show (c % 16).testBit i = false from Nat.testBit_lt_two_pow (Nat.lt_of_lt_of_le (show c % 16 < 2 ^ 4 by omega) (Nat.pow_le_pow_right (by omega) hi))]
        simp
      · simp [hi]
    rw [h2] at h1
    rw [show 16 * (c / 16) = 2 ^ 4 * (c / 16) by omega, ← h1]
    omega
  conv => rhs; rw [e, halfs_xor, halfs_four]

/-- The running sum behind k bytes. -/
def crcC (s : ByteArray) : Nat → Nat
  | 0 => 4294967295
  | k + 1 => halfs 8 (crcC s k ^^^ bn s k)
theorem crcC_succ (s : ByteArray) (k : Nat) : crcC s (k + 1) = halfs 8 (crcC s k ^^^ bn s k) := by rw [crcC]
theorem crcC_lt (s : ByteArray) (k : Nat) : crcC s k < 4294967296 := by
  induction k with
  | zero => rw [crcC]; omega
  | succ k ih =>
    have := bn_lt s k
    exact halfs_lt _ _ (xor_lt32 _ _ ih (by omega))
/-- The sum of a text. -/
def crc (s : ByteArray) : Nat := 4294967295 - crcC s s.size

theorem xor_i64 (a b : Nat) (ha : a < 4294967296) (hb : b < 4294967296) : bits .xor .i64 (a : Int) (b : Int) = ((a ^^^ b : Nat) : Int) := by
  have := xor_lt32 a b ha hb
  show IntKind.i64.wrap ((BitVec.ofInt 64 (a : Int) ^^^ BitVec.ofInt 64 (b : Int)).toNat : Int) = _
  rw [BitVec.toNat_xor, BitVec.ofInt_natCast, BitVec.ofInt_natCast, BitVec.toNat_ofNat, BitVec.toNat_ofNat, Nat.mod_eq_of_lt (by omega), Nat.mod_eq_of_lt (by omega), IntKind.wrap_i64]
  omega
theorem xor_u32 (a b : Nat) (ha : a < 4294967296) (hb : b < 4294967296) : bits .xor .u32 (a : Int) (b : Int) = ((a ^^^ b : Nat) : Int) := by
  have := xor_lt32 a b ha hb
  show IntKind.u32.wrap ((BitVec.ofInt 32 (a : Int) ^^^ BitVec.ofInt 32 (b : Int)).toNat : Int) = _
  rw [BitVec.toNat_xor, BitVec.ofInt_natCast, BitVec.ofInt_natCast, BitVec.toNat_ofNat, BitVec.toNat_ofNat, Nat.mod_eq_of_lt (by omega), Nat.mod_eq_of_lt (by omega), IntKind.wrap_u32]
  omega
theorem and_u32_15 (a : Nat) (ha : a < 4294967296) : bits .and .u32 (a : Int) 15 = ((a % 16 : Nat) : Int) := by
  have := bits_mask .u32 32 (by decide) (fun n h0 h1 => by rw [IntKind.wrap_u32]; omega) 4 (by omega) (a : Int) (by omega) (by omega)
  simpa using this
end Go.Proofs.YthgiekeiljflaaaDoor
