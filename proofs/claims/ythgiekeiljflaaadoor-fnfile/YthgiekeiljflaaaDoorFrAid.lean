/-
  Plain lemmas on frames: what the frame of a body is, with what a text begins, all frames of a text (no program in sight, no condition).
-/
import Derived.Test.YthgiekeiljflaaaDoorAid
import Derived.Test.YthgiekeiljflaaaDoorCrcAid
namespace Go.Proofs.YthgiekeiljflaaaDoor
open Go.RowKit Go.PlainAid

/-- A number in four bytes. -/
def four (n : Nat) : ByteArray := txt (low n 4)
theorem four_size (n : Nat) : (four n).size = 4 := by rw [four, txt_size, low_length]
theorem rdv_four (s : ByteArray) : rdv s 4 = ((bn s 0 * 256 + bn s 1) * 256 + bn s 2) * 256 + bn s 3 := by simp [rdv]
theorem byt_congr (a b : Nat) (h : a % 256 = b % 256) : byt a = byt b := by
  apply UInt8.toNat_inj.1
  rw [byt_toNat, byt_toNat, h]
theorem rdv_four_lt (s : ByteArray) : rdv s 4 < 4294967296 := rdv_lt s 4
/-- What is read from four bytes is written so. -/
theorem four_rdv (s : ByteArray) (h : 4 ≤ s.size) : four (rdv s 4) = s.extract 0 4 := by
  rw [sg_extract s 4 h, four, rdv_four]
  have h0 := bn_lt s 0
  have h1 := bn_lt s 1
  have h2 := bn_lt s 2
  have h3 := bn_lt s 3
  have e : ∀ a b c d : Nat, ∀ a' b' c' d' : Nat, a % 256 = a' % 256 → b % 256 = b' % 256 → c % 256 = c' % 256 → d % 256 = d' % 256 → [byt a, byt b, byt c, byt d] = [byt a', byt b', byt c', byt d'] := by
    intro a b c d a' b' c' d' ha hb hc hd
    rw [byt_congr a a' ha, byt_congr b b' hb, byt_congr c c' hc, byt_congr d d' hd]
  have e2 : low (((bn s 0 * 256 + bn s 1) * 256 + bn s 2) * 256 + bn s 3) 4 = [byt ((((bn s 0 * 256 + bn s 1) * 256 + bn s 2) * 256 + bn s 3) / 16777216), byt ((((bn s 0 * 256 + bn s 1) * 256 + bn s 2) * 256 + bn s 3) / 65536), byt ((((bn s 0 * 256 + bn s 1) * 256 + bn s 2) * 256 + bn s 3) / 256), byt ((((bn s 0 * 256 + bn s 1) * 256 + bn s 2) * 256 + bn s 3) / 1)] := rfl
  have e3 : sg s 0 4 = [byt (bn s 0), byt (bn s 1), byt (bn s 2), byt (bn s 3)] := rfl
  rw [e2, e3]
  exact congrArg txt (e _ _ _ _ _ _ _ _ (by omega) (by omega) (by omega) (by omega))
theorem bn_get (s : ByteArray) (k : Nat) (h : k < s.size) : bn s k = (s[k]'h).toNat := by
  have := get_bn s k h
  omega
theorem bn_append_left (a b : ByteArray) (k : Nat) (h : k < a.size) : bn (a ++ b) k = bn a k := by
  rw [bn_get _ _ (by rw [ByteArray.size_append]; omega), bn_get _ _ h, ByteArray.getElem_append_left]
theorem rdv_append (a b : ByteArray) (k : Nat) (h : k ≤ a.size) : rdv (a ++ b) k = rdv a k := by
  induction k with
  | zero => rfl
  | succ k ih => rw [rdv, rdv, ih (by omega), bn_append_left _ _ _ (by omega)]
theorem bn_txt (l : List UInt8) (k : Nat) (h : k < l.length) : bn (txt l) k = (l[k]).toNat := by
  rw [bn_get _ _ (by rw [txt_size]; exact h)]
  rfl
/-- What is written in four bytes is read so. -/
theorem rdv_four_four (n : Nat) (h : n < 4294967296) : rdv (four n) 4 = n := by
  rw [rdv_four, four, bn_txt _ 0 (by rw [low_length]; omega), bn_txt _ 1 (by rw [low_length]; omega), bn_txt _ 2 (by rw [low_length]; omega), bn_txt _ 3 (by rw [low_length]; omega)]
  simp only [low, List.getElem_cons_zero, List.getElem_cons_succ, byt_toNat]
  omega

/-- The sum of a length and a body, in four bytes. -/
def sumOf (a b : ByteArray) : ByteArray := four (crc (a ++ b))
theorem crc_lt (s : ByteArray) : crc s < 4294967296 := by unfold crc; omega
theorem sumOf_size (a b : ByteArray) : (sumOf a b).size = 4 := four_size _
/-- The frame of a body. -/
def frameOf (b : ByteArray) : ByteArray := four b.size ++ sumOf (four b.size) b ++ b
theorem frameOf_size (b : ByteArray) : (frameOf b).size = 8 + b.size := by
  rw [frameOf, ByteArray.size_append, ByteArray.size_append, four_size, sumOf_size]
/-- What Frame answers. -/
def frame (b : ByteArray) : ByteArray := if b.size = 0 ∨ 2000 < b.size then txt [] else frameOf b

/-- The body of the frame with which a text begins, by its length. -/
def bodyOf (s : ByteArray) : ByteArray := s.extract 8 (8 + rdv s 4)
theorem bodyOf_size (s : ByteArray) (h : 8 + rdv s 4 ≤ s.size) : (bodyOf s).size = rdv s 4 := by
  rw [bodyOf, ByteArray.size_extract]
  omega
/-- What Unframe tells of a text: 0 right, 1 short, 2 bad. -/
def code (s : ByteArray) : Nat :=
  if s.size < 4 then 1 else if rdv s 4 = 0 ∨ 2000 < rdv s 4 then 2 else if s.size < 8 + rdv s 4 then 1
  else if sumOf (s.extract 0 4) (bodyOf s) = s.extract 4 8 then 0 else 2
theorem code_zero (s : ByteArray) : code s = 0 ↔ 4 ≤ s.size ∧ 1 ≤ rdv s 4 ∧ rdv s 4 ≤ 2000 ∧ 8 + rdv s 4 ≤ s.size ∧ sumOf (s.extract 0 4) (bodyOf s) = s.extract 4 8 := by
  unfold code
  split
  · constructor
    · intro h; cases h
    · intro h; omega
  · split
    · constructor
      · intro h; cases h
      · intro h; omega
    · split
      · constructor
        · intro h; cases h
        · intro h; omega
      · split
        · rename_i h
          constructor
          · intro _; exact ⟨by omega, by omega, by omega, by omega, h⟩
          · intro _; rfl
        · rename_i h
          constructor
          · intro h; cases h
          · intro h'; exact absurd h'.2.2.2.2 h
/-- The first bytes of a text in three pieces. -/
theorem pieces (s : ByteArray) (n : Nat) : s.extract 0 (8 + n) = s.extract 0 4 ++ s.extract 4 8 ++ s.extract 8 (8 + n) := by
  rw [ByteArray.extract_append_extract, show min 0 4 = 0 by rfl, show max 4 8 = 8 by rfl, ByteArray.extract_append_extract, show min 0 8 = 0 by rfl, show max 8 (8 + n) = 8 + n by omega]
/-- A text begins with the frame of its body just where the sum is right. -/
theorem frame_fits (s : ByteArray) (h4 : 4 ≤ s.size) (h1 : 1 ≤ rdv s 4) (h2 : rdv s 4 ≤ 2000) (h8 : 8 + rdv s 4 ≤ s.size) :
    frame (bodyOf s) = s.extract 0 (8 + rdv s 4) ↔ sumOf (s.extract 0 4) (bodyOf s) = s.extract 4 8 := by
  have hb := bodyOf_size s h8
  have e : s.extract 8 (8 + rdv s 4) = bodyOf s := rfl
  rw [frame, if_neg (by omega), frameOf, hb, four_rdv s h4, pieces, e]
  rw [ByteArray.append_left_inj, ByteArray.append_right_inj]

/-- A right frame at a text's beginning is read, whatever stands behind. -/
theorem rdv_frameOf (b t : ByteArray) (h : b.size ≤ 2000) : rdv (frameOf b ++ t) 4 = b.size := by
  rw [frameOf, ByteArray.append_assoc, ByteArray.append_assoc, rdv_append _ _ _ (by rw [four_size]; omega), rdv_four_four _ (by omega)]
theorem bodyOf_frameOf (b t : ByteArray) (h : b.size ≤ 2000) : bodyOf (frameOf b ++ t) = b := by
  have e : frameOf b ++ t = (four b.size ++ sumOf (four b.size) b) ++ (b ++ t) := by rw [frameOf, ByteArray.append_assoc]
  rw [bodyOf, rdv_frameOf b t h, e, ByteArray.extract_append, ByteArray.extract_eq_empty_iff.2 (by rw [ByteArray.size_append, four_size, sumOf_size]; omega), ByteArray.size_append, four_size, sumOf_size]
  rw [ByteArray.empty_append, show 8 - (4 + 4) = 0 by rfl, show 8 + b.size - (4 + 4) = b.size by omega]
  exact ByteArray.extract_append_eq_left rfl
theorem code_frameOf (b t : ByteArray) (h1 : 1 ≤ b.size) (h : b.size ≤ 2000) : code (frameOf b ++ t) = 0 := by
  have hs : (frameOf b ++ t).size = 8 + b.size + t.size := by rw [ByteArray.size_append, frameOf_size]
  rw [code_zero, rdv_frameOf b t h, bodyOf_frameOf b t h]
  refine ⟨by omega, h1, h, by omega, ?_⟩
  have e : frameOf b ++ t = four b.size ++ (sumOf (four b.size) b ++ (b ++ t)) := by rw [frameOf, ByteArray.append_assoc, ByteArray.append_assoc]
  have e1 : (frameOf b ++ t).extract 0 4 = four b.size := by rw [e]; exact ByteArray.extract_append_eq_left (four_size _).symm
  have e2 : (frameOf b ++ t).extract 4 8 = sumOf (four b.size) b := by
    rw [e, ByteArray.extract_append, ByteArray.extract_eq_empty_iff.2 (by rw [four_size]; omega), four_size, ByteArray.empty_append]
    exact ByteArray.extract_append_eq_left (by rw [sumOf_size])
  rw [e1, e2]
/-- A beginning of a right frame is short. -/
theorem code_cut (b : ByteArray) (k : Nat) (h : b.size ≤ 2000) (hk : k < 8 + b.size) : code ((frameOf b).extract 0 k) ≠ 0 := by
  intro hc
  have hz : ((frameOf b).extract 0 k).size = k := by rw [ByteArray.size_extract, frameOf_size]; omega
  rw [code_zero, hz] at hc
  obtain ⟨h4, _, _, h8, _⟩ := hc
  have e : frameOf b = (frameOf b).extract 0 k ++ (frameOf b).extract k (frameOf b).size := by
    rw [ByteArray.extract_append_extract, show min 0 k = 0 by omega, show max k (frameOf b).size = (frameOf b).size by rw [frameOf_size]; omega, ByteArray.extract_zero_size]
  have h5 := rdv_frameOf b ByteArray.empty h
  rw [ByteArray.append_empty, e, rdv_append _ _ _ (by rw [hz]; exact h4)] at h5
  omega

/-! ### All frames of a text -/
/-- What is behind the first i bytes. -/
def rest (s : ByteArray) (i : Nat) : ByteArray := s.extract i s.size
theorem rest_size (s : ByteArray) (i : Nat) : (rest s i).size = s.size - i := by rw [rest, ByteArray.size_extract]; omega
theorem rest_zero (s : ByteArray) : rest s 0 = s := ByteArray.extract_zero_size
/-- Where the frame number k begins. -/
def pos (s : ByteArray) : Nat → Nat
  | 0 => 0
  | k + 1 => pos s k + (8 + rdv (rest s (pos s k)) 4)
theorem pos_succ (s : ByteArray) (k : Nat) : pos s (k + 1) = pos s k + (8 + rdv (rest s (pos s k)) 4) := by rw [pos]
/-- The first k bodies. -/
def bods (s : ByteArray) : Nat → List ByteArray
  | 0 => []
  | k + 1 => bods s k ++ [bodyOf (rest s (pos s k))]
theorem bods_succ (s : ByteArray) (k : Nat) : bods s (k + 1) = bods s k ++ [bodyOf (rest s (pos s k))] := by rw [bods]
theorem bods_length (s : ByteArray) (k : Nat) : (bods s k).length = k := by
  induction k with
  | zero => rfl
  | succ k ih => rw [bods, List.length_append, ih]; rfl
/-- The first k frames are right. -/
def Runs (s : ByteArray) (k : Nat) : Prop := ∀ j, j < k → code (rest s (pos s j)) = 0
/-- They are all. -/
def Ends (s : ByteArray) (k : Nat) : Prop := Runs s k ∧ code (rest s (pos s k)) ≠ 0
theorem Runs.zero (s : ByteArray) : Runs s 0 := fun j hj => by omega
theorem Runs.succ {s : ByteArray} {k : Nat} (h : Runs s k) (hc : code (rest s (pos s k)) = 0) : Runs s (k + 1) := fun j hj => by
  rcases Nat.lt_succ_iff_lt_or_eq.1 hj with h' | rfl
  · exact h j h'
  · exact hc
theorem Runs.pos_le {s : ByteArray} {k : Nat} (h : Runs s k) : k * 9 ≤ pos s k ∧ pos s k ≤ s.size := by
  induction k with
  | zero => simp [pos]
  | succ k ih =>
    have hk := ih (fun j hj => h j (by omega))
    have hc := (code_zero _).1 (h k (by omega))
    rw [rest_size] at hc
    rw [pos_succ]
    omega
theorem Ends.one {s : ByteArray} {k k' : Nat} (h : Ends s k) (h' : Ends s k') : k = k' := by
  rcases Nat.lt_trichotomy k k' with hl | hl | hl
  · exact absurd (h'.1 k hl) h.2
  · exact hl
  · exact absurd (h.1 k' hl) h'.2
end Go.Proofs.YthgiekeiljflaaaDoor
